/- What is proved here: wide's parts of words. -/
import Derived.Test.YtbdhgfjhgfohcaaWc
namespace Go.Proofs.Ytbdhgfjhgfohcaa
open Go.RowKit
set_option linter.unusedVariables false
set_option linter.unusedSimpArgs false
set_option maxRecDepth 100000
theorem and_3 (n : Int) : bits .and .i64 n 3 = n % 4 := by
  have h3 : (BitVec.ofInt 64 3).toNat = 2 ^ 2 - 1 := by decide
  have key : (BitVec.ofInt 64 n &&& BitVec.ofInt 64 3).toNat = (n % ((2 ^ 64 : Nat) : Int)).toNat % 2 ^ 2 := by
    rw [BitVec.toNat_and, h3, Nat.and_two_pow_sub_one_eq_mod, BitVec.toNat_ofInt]
  show IntKind.i64.wrap ((BitVec.ofInt 64 n &&& BitVec.ofInt 64 3).toNat : Nat) = n % 4
  rw [key, IntKind.wrap_i64]
  omega
theorem or_u32 (a b : Nat) (ha : a < 4294967296) (hb : b < 4294967296) : bits .or .u32 (a : Int) (b : Int) = ((a ||| b : Nat) : Int) := (bits_nat .u32 32 (by decide) (fun n h0 h1 => by rw [IntKind.wrap_u32]; omega) a b (by omega) (by omega)).2
theorem andNot_u32 (a m : Nat) (ha : a < 4294967296) (hm : m < 4294967296) : bits .andNot .u32 (a : Int) (m : Int) = ((a &&& (4294967295 - m) : Nat) : Int) := by
  have h : a &&& (4294967295 - m) < 4294967296 := Nat.lt_of_le_of_lt Nat.and_le_left ha
  show IntKind.u32.wrap (((BitVec.ofInt 32 (a : Int) &&& ~~~ BitVec.ofInt 32 (m : Int)).toNat : Nat) : Int) = _
  rw [BitVec.toNat_and, BitVec.toNat_not, BitVec.toNat_ofInt, BitVec.toNat_ofInt, IntKind.wrap_u32]
  have ea : ((a : Int) % ((2 ^ 32 : Nat) : Int)).toNat = a := by omega
  have eb : ((m : Int) % ((2 ^ 32 : Nat) : Int)).toNat = m := by omega
  rw [ea, eb, show 2 ^ 32 - 1 - m = 4294967295 - m from rfl]
  omega
/-- The bits from n on. -/
theorem and_high (a n : Nat) (ha : a < 4294967296) (hn : n ≤ 32) : a &&& (4294967295 - (2 ^ n - 1)) = a / 2 ^ n * 2 ^ n := by
  have hp : 0 < 2 ^ n := Nat.pow_pos (by decide)
  have hp2 : 2 ^ n ≤ 2 ^ 32 := Nat.pow_le_pow_right (by decide) hn
  apply Nat.eq_of_testBit_eq
  intro i
  rw [Nat.testBit_and, show 4294967295 - (2 ^ n - 1) = 2 ^ 32 - ((2 ^ n - 1) + 1) from by omega, Nat.testBit_two_pow_sub_succ (by omega), Nat.testBit_two_pow_sub_one, Nat.testBit_mul_two_pow, Nat.testBit_div_two_pow]
  by_cases h : i < 32
  · by_cases h2 : n ≤ i
    · rw [show i - n + n = i from by omega]; simp [h, h2, show ¬ i < n by omega]
    · simp [h2, show i < n by omega]
  · have : a.testBit i = false := Nat.testBit_lt_two_pow (Nat.lt_of_lt_of_le ha (Nat.pow_le_pow_right (show 2 > 0 by decide) (show 32 ≤ i by omega)))
    by_cases h2 : n ≤ i
    · rw [show i - n + n = i from by omega]; simp [h, h2, this]
    · simp [h2, this]
theorem or_parts (a b n : Nat) (hb : b < 2 ^ n) : b ||| a * 2 ^ n = a * 2 ^ n + b := by
  have := Nat.two_pow_add_eq_or_of_lt hb a
  rw [Nat.or_comm, Nat.mul_comm a, ← this]
def mvN (up : Bool) (j v : Nat) : Nat := if up then v * 2 ^ (8 * j) % 4294967296 else v / 2 ^ (8 * j)
theorem mv_lt (up : Bool) (j v : Nat) (hv : v < 4294967296) : mvN up j v < 4294967296 := by
  unfold mvN; split
  · omega
  · exact Nat.lt_of_le_of_lt (Nat.div_le_self _ _) hv
/-- A word moved over an old one, by j bytes. -/
def layN (up : Bool) (old v j : Nat) : Nat := if up then v * 2 ^ (8 * j) % 4294967296 + old % 2 ^ (8 * j) else old / 2 ^ (32 - 8 * j) * 2 ^ (32 - 8 * j) + v / 2 ^ (8 * j)
theorem lay_key (up : Bool) (old v j : Nat) (ho : old < 4294967296) (hv : v < 4294967296) (hj : j ≤ 3) : (old &&& (4294967295 - mvN up j 4294967295)) ||| mvN up j v = layN up old v j := by
  have h : j = 0 ∨ j = 1 ∨ j = 2 ∨ j = 3 := by omega
  cases up
  · show (old &&& (4294967295 - 4294967295 / 2 ^ (8 * j))) ||| v / 2 ^ (8 * j) = old / 2 ^ (32 - 8 * j) * 2 ^ (32 - 8 * j) + v / 2 ^ (8 * j)
    have e : 4294967295 / 2 ^ (8 * j) = 2 ^ (32 - 8 * j) - 1 := by rcases h with h | h | h | h <;> subst h <;> decide
    have l : v / 2 ^ (8 * j) < 2 ^ (32 - 8 * j) := by
      rcases h with h | h | h | h <;> subst h
      · show v / 1 < 4294967296; omega
      · show v / 256 < 16777216; omega
      · show v / 65536 < 65536; omega
      · show v / 16777216 < 256; omega
    rw [e, and_high old _ ho (by omega), Nat.or_comm, or_parts _ _ _ l]
  · show (old &&& (4294967295 - 4294967295 * 2 ^ (8 * j) % 4294967296)) ||| v * 2 ^ (8 * j) % 4294967296 = v * 2 ^ (8 * j) % 4294967296 + old % 2 ^ (8 * j)
    have e : 4294967295 - 4294967295 * 2 ^ (8 * j) % 4294967296 = 2 ^ (8 * j) - 1 := by rcases h with h | h | h | h <;> subst h <;> decide
    have e2 : v * 2 ^ (8 * j) % 4294967296 = v % 2 ^ (32 - 8 * j) * 2 ^ (8 * j) := by
      rcases h with h | h | h | h <;> subst h
      · show v * 1 % 4294967296 = v % 4294967296 * 1; omega
      · show v * 256 % 4294967296 = v % 16777216 * 256; omega
      · show v * 65536 % 4294967296 = v % 65536 * 65536; omega
      · show v * 16777216 % 4294967296 = v % 256 * 16777216; omega
    rw [e, Nat.and_two_pow_sub_one_eq_mod, e2, or_parts _ _ _ (Nat.mod_lt _ (Nat.pow_pos (by decide)))]
theorem lay_lt (up : Bool) (old v j : Nat) (ho : old < 4294967296) (hv : v < 4294967296) (hj : j ≤ 3) : layN up old v j < 4294967296 := by
  rw [← lay_key up old v j ho hv hj]
  exact Nat.or_lt_two_pow (n := 32) (Nat.lt_of_le_of_lt Nat.and_le_left ho) (mv_lt up j v hv)
theorem ahead30 (a : Int) (w : World) : Calls Try.prog 30 #[.int .i64 a] w fun e w' => e = .returned (.int .i64 (a % 4)) ∧ w' = w := by
  have h := and_3 a
  go_enter Try.func30, Try.ntmps30
  go_wp2
  go_ret
  exact ⟨rfl, rfl⟩
theorem behind35 (a : Int) (w : World) : Calls Try.prog 35 #[.int .i64 a] w fun e w' => e = .returned (.int .i64 (3 - a % 4)) ∧ w' = w := by
  have K : Hid (∀ w, Calls Try.prog 30 #[.int .i64 a] w fun e w' => e = .returned (.int .i64 (a % 4)) ∧ w' = w) := ahead30 a
  go_enter Try.func35, Try.ntmps35
  go_wp2_with fail
  refine (K.out _).mono ?_
  rintro e w1 ⟨rfl, rfl⟩
  go_wp2
  go_ret
  exact ⟨ret_int (by omega), rfl⟩
def mvF (up : Bool) : Nat := if up then 54 else 55
theorem mv_enter (up : Bool) (args : Array Value) (w : World) : (callFunc (mvF up) args).run Try.prog w = .ok (.enter (mvF up) args) w := by
  cases up
  · exact enter_of Try.func55 (by kernel_rfl) (by kernel_rfl) args w
  · exact enter_of Try.func54 (by kernel_rfl) (by kernel_rfl) args w
theorem mv_any (up : Bool) (j v : Nat) (hj : j ≤ 3) (hv : v < 4294967296) (p : Addr) (w : World) (c : w.cell? p = some (.int .i64 (j : Int))) : Calls Try.prog (mvF up) #[.int .u32 (v : Int), .pointer (some p)] w fun e w' => e = .returned (.int .u32 ((mvN up j v : Nat) : Int)) ∧ w' = w := by
  have h : j = 0 ∨ j = 1 ∨ j = 2 ∨ j = 3 := by omega
  cases up
  · show Calls Try.prog 55 _ _ _
    rcases h with h | h | h | h
    all_goals
      subst h
      go_enter Try.func55, Try.ntmps55
      go_wp2
      go_ret
      exact ⟨ret_int (by simp [mvN]), rfl⟩
  · show Calls Try.prog 54 _ _ _
    rcases h with h | h | h | h
    all_goals
      subst h
      go_enter Try.func54, Try.ntmps54
      go_wp2
      go_ret
      exact ⟨ret_int (by simp [mvN] <;> omega), rfl⟩
end Go.Proofs.Ytbdhgfjhgfohcaa
