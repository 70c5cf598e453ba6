/- What is proved here: plain facts for the laws SwapBack and SwapHalves: a number's lowest bytes, read again, are its remainder. -/
import Derived.Test.YtajlhnojhpomdaaRef
namespace Go.Proofs.Ytajlhnojhpomdaa
open Go.RowKit

theorem foldl_from (l : List UInt8) : ∀ v : Nat, l.foldl (fun v c => v * 256 + c.toNat) v = v * 256 ^ l.length + beL l := by
  induction l with
  | nil => intro v; simp [beL]
  | cons c m ih =>
    intro v
    have h1 := ih (v * 256 + c.toNat)
    have h2 := ih (0 * 256 + c.toNat)
    simp only [beL, List.foldl_cons, List.length_cons] at h1 h2 ⊢
    rw [h1, h2, Nat.pow_succ, Nat.add_mul, Nat.add_mul, Nat.zero_mul, Nat.mul_comm (256 ^ m.length) 256, Nat.mul_assoc]
    omega
theorem beL_append (l m : List UInt8) : beL (l ++ m) = beL l * 256 ^ m.length + beL m := by
  rw [beL, List.foldl_append, foldl_from]; rfl
theorem pow256 (k : Nat) : 256 ^ k = 2 ^ (8 * k) := by rw [Nat.pow_mul]
theorem beL_one (c : UInt8) : beL [c] = c.toNat := by simp [beL]
theorem beL_leB (v k : Nat) : beL (leB v k).reverse = v % 2 ^ (8 * k) := by
  induction k with
  | zero => simp [leB, beL, Nat.mod_one]
  | succ k ih =>
    have h : (UInt8.ofNat (byteAt v k)).toNat = byteAt v k := by simp [Nat.mod_eq_of_lt (byteAt_lt v k)]
    rw [leB, List.reverse_append, List.reverse_singleton, beL_append, beL_one, ih, h, List.length_reverse, leB_length, pow256, Nat.mul_add, Nat.pow_add, Nat.mod_mul, byteAt, Nat.mul_comm, show 2 ^ (8 * 1) = 256 from rfl]
    omega

/-- The two strings of SwapBack. -/
theorem put_size (v k : Nat) (hk : k ≤ 8) : (putBeS v (k : Int)).size = k ∧ (putLeS v (k : Int)).size = k := by
  rw [putBeS, putLeS, if_pos (by omega), if_pos (by omega), Int.toNat_natCast]
  constructor
  · show (leB v k).reverse.toArray.size = k
    simp [leB_length]
  · show (leB v k).toArray.size = k
    simp [leB_length]
theorem put_turn (v k : Nat) (hk : k ≤ 8) (i j : Nat) (hij : i + j + 1 = k) (h1 : i < (putBeS v (k : Int)).size) (h2 : j < (putLeS v (k : Int)).size) : (putBeS v (k : Int))[i] = (putLeS v (k : Int))[j] := by
  have e1 : putBeS v (k : Int) = ⟨(leB v k).reverse.toArray⟩ := by rw [putBeS, if_pos (by omega), Int.toNat_natCast]
  have e2 : putLeS v (k : Int) = ⟨(leB v k).toArray⟩ := by rw [putLeS, if_pos (by omega), Int.toNat_natCast]
  generalize putBeS v (k : Int) = A at *
  generalize putLeS v (k : Int) = B at *
  subst e1 e2
  show (leB v k).reverse.toArray[i]'h1 = (leB v k).toArray[j]'h2
  simp only [List.getElem_toArray, List.getElem_reverse, leB_get, leB_length]
  rw [show k - 1 - i = j from by omega]
theorem be_put (v k : Nat) (hk : k ≤ 8) : beS (putBeS v (k : Int)) = v % 2 ^ (8 * k) ∧ leS (putLeS v (k : Int)) = v % 2 ^ (8 * k) := by
  obtain ⟨h1, h2⟩ := put_size v k hk
  rw [beS, leS, h1, h2, if_pos hk, if_pos hk, putBeS, putLeS, if_pos (by omega), if_pos (by omega), Int.toNat_natCast]
  exact ⟨beL_leB v k, beL_leB v k⟩
theorem mask64 (v k : Nat) (hv : v < 18446744073709551616) (hk : k ≤ 7) : bits .and .u64 (v : Int) (IntKind.u64.wrap (IntKind.u64.wrap (2 ^ (8 * k)) - 1)) = ((v % 2 ^ (8 * k) : Nat) : Int) := by
  have hq : 2 ^ (8 * k) ≤ 2 ^ 56 := Nat.pow_le_pow_right (show 1 ≤ 2 by decide) (by omega)
  have hq0 := Nat.pow_pos (n := 8 * k) (show 0 < 2 by decide)
  have e : IntKind.u64.wrap (IntKind.u64.wrap ((2 : Int) ^ (8 * k)) - 1) = ((2 ^ (8 * k) - 1 : Nat) : Int) := by
    have e2 : ((2 : Int) ^ (8 * k)) = ((2 ^ (8 * k) : Nat) : Int) := by simp
    rw [e2, IntKind.wrap_u64, IntKind.wrap_u64]; omega
  rw [e, u64_and_nat _ _ hv (by omega), Nat.and_two_pow_sub_one_eq_mod]

/-! ### Halves -/
theorem byteAt_zero (v : Nat) : byteAt v 0 = v % 256 := by simp [byteAt]
theorem byteAt_succ (v k : Nat) : byteAt v (k + 1) = byteAt (v / 256) k := by
  unfold byteAt
  rw [Nat.div_div_eq_div_mul, Nat.mul_add, Nat.pow_add, Nat.mul_comm]
theorem leB_cons (v k : Nat) : leB v (k + 1) = UInt8.ofNat (v % 256) :: leB (v / 256) k := by
  induction k with
  | zero => simp [leB, byteAt_zero]
  | succ k ih => rw [leB, ih, leB, byteAt_succ]; simp
theorem leB_low (k : Nat) : ∀ x y : Nat, leB (x * 2 ^ (8 * k) + y) k = leB y k := by
  induction k with
  | zero => intro x y; rfl
  | succ k ih =>
    intro x y
    have e : x * 2 ^ (8 * (k + 1)) = 256 * (x * 2 ^ (8 * k)) := by
      rw [Nat.mul_add, Nat.pow_add, ← Nat.mul_assoc, Nat.mul_comm]
    have e1 : (256 * (x * 2 ^ (8 * k)) + y) % 256 = y % 256 := by omega
    have e2 : (256 * (x * 2 ^ (8 * k)) + y) / 256 = x * 2 ^ (8 * k) + y / 256 := by omega
    rw [e, leB_cons, leB_cons, e1, e2, ih]
theorem leB_beL (m : List UInt8) : ∀ l : List UInt8, m = l.reverse → leB (beL l) l.length = m := by
  induction m with
  | nil => intro l h; have : l = [] := by simpa using h.symm
           subst this; rfl
  | cons c m ih =>
    intro l h
    have hl : l = m.reverse ++ [c] := by rw [← List.reverse_reverse l, ← h]; simp
    subst hl
    have hc := c.toNat_lt
    have e1 : (beL m.reverse * 256 + c.toNat) % 256 = c.toNat := by omega
    have e2 : (beL m.reverse * 256 + c.toNat) / 256 = beL m.reverse := by omega
    rw [beL_snoc, List.length_append, List.length_singleton, leB_cons, e1, e2, ih m.reverse (by simp)]
    simp
theorem leB_beL' (l : List UInt8) : leB (beL l) l.length = l.reverse := leB_beL l.reverse l rfl
theorem beS_four (S : ByteArray) (hS : S.size = 4) : beS S = beL S.data.toList ∧ leS S = beL S.data.toList.reverse ∧ beS S < 4294967296 ∧ leS S < 4294967296 ∧ S.data.toList.length = 4 := by
  have hl : S.data.toList.length = 4 := by simpa using hS
  have h1 := beL_lt S.data.toList
  have h2 := beL_lt S.data.toList.reverse
  rw [List.length_reverse] at h2
  rw [hl] at h1 h2
  rw [beS, leS, if_pos (by omega), if_pos (by omega)]
  exact ⟨rfl, rfl, h1, h2, hl⟩
theorem halves_be (S T : ByteArray) (hS : S.size = 4) (hT : T.size = 4) : beS (S ++ T) = beS S * 4294967296 + beS T ∧ leS (S ++ T) = leS T * 4294967296 + leS S := by
  obtain ⟨s1, s2, -, -, s5⟩ := beS_four S hS
  obtain ⟨t1, t2, -, -, t5⟩ := beS_four T hT
  have hsz : (S ++ T).size = 8 := by rw [ByteArray.size_append, hS, hT]
  rw [s1, s2, t1, t2, beS, leS, if_pos (by omega), if_pos (by omega), ByteArray.data_append, Array.toList_append, List.reverse_append, beL_append, beL_append, List.length_reverse, s5, t5]
  exact ⟨rfl, rfl⟩
theorem halves_put (S T : ByteArray) (hS : S.size = 4) (hT : T.size = 4) : putBeS (beS (S ++ T)) 4 = T ∧ putLeS (leS (S ++ T)) 4 = S := by
  obtain ⟨s1, s2, -, -, s5⟩ := beS_four S hS
  obtain ⟨t1, t2, -, -, t5⟩ := beS_four T hT
  obtain ⟨h1, h2⟩ := halves_be S T hS hT
  have e1 : leB (beS S * 2 ^ (8 * 4) + beS T) 4 = T.data.toList.reverse := by
    rw [leB_low, t1, ← t5, leB_beL']
  have e2 : leB (leS T * 2 ^ (8 * 4) + leS S) 4 = S.data.toList := by
    rw [leB_low, s2, ← s5, ← List.length_reverse, leB_beL', List.reverse_reverse]
  have p : 2 ^ (8 * 4) = 4294967296 := by decide
  have e4 : (4 : Int).toNat = 4 := rfl
  rw [p] at e1 e2
  rw [h1, h2, putBeS, putLeS, if_pos (by decide), if_pos (by decide), e4, e1, e2, List.reverse_reverse]
  exact ⟨rfl, rfl⟩
theorem or_halves (x y : Nat) (hx : x < 4294967296) (hy : y < 4294967296) : bits .or .u64 (IntKind.u64.wrap ((x : Int) * 4294967296)) (y : Int) = ((x * 4294967296 + y : Nat) : Int) := by
  have e1 : IntKind.u64.wrap ((x : Int) * 4294967296) = ((x * 4294967296 : Nat) : Int) := by rw [IntKind.wrap_u64]; omega
  rw [e1, u64_or_nat _ _ (by omega) (by omega), nat_join 32 _ _ (by omega) (by omega)]
end Go.Proofs.Ytajlhnojhpomdaa
