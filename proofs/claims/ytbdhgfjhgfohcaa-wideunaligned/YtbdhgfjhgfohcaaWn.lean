/- What is proved here: plain words for WideUnaligned, and its walk. -/
import Derived.Test.YtbdhgfjhgfohcaaWl
namespace Go.Proofs.Ytbdhgfjhgfohcaa
open Go.RowKit
set_option linter.unusedVariables false
set_option linter.unusedSimpArgs false
set_option maxRecDepth 100000
theorem andNot_u64 (a m : Nat) (ha : a < 18446744073709551616) (hm : m < 18446744073709551616) : bits .andNot .u64 (a : Int) (m : Int) = ((a &&& (18446744073709551615 - m) : Nat) : Int) := by
  have h : a &&& (18446744073709551615 - m) < 18446744073709551616 := Nat.lt_of_le_of_lt Nat.and_le_left ha
  show IntKind.u64.wrap (((BitVec.ofInt 64 (a : Int) &&& ~~~ BitVec.ofInt 64 (m : Int)).toNat : Nat) : Int) = _
  rw [BitVec.toNat_and, BitVec.toNat_not, BitVec.toNat_ofInt, BitVec.toNat_ofInt, IntKind.wrap_u64]
  have ea : ((a : Int) % ((2 ^ 64 : Nat) : Int)).toNat = a := by omega
  have eb : ((m : Int) % ((2 ^ 64 : Nat) : Int)).toNat = m := by omega
  rw [ea, eb, show 2 ^ 64 - 1 - m = 18446744073709551615 - m from rfl]
  generalize a &&& (18446744073709551615 - m) = z at *
  omega
theorem and_gap (a n M : Nat) (ha : a < 2 ^ 64) (hn : n ≤ 32) (hM : M = (2 ^ 32 - 1) * 2 ^ n) (hl : M < 2 ^ 64) : a &&& (2 ^ 64 - (M + 1)) = a / 2 ^ (32 + n) * 2 ^ (32 + n) ||| a % 2 ^ n := by
  apply Nat.eq_of_testBit_eq
  intro i
  rw [Nat.testBit_and, Nat.testBit_two_pow_sub_succ hl, hM, Nat.testBit_mul_two_pow, Nat.testBit_two_pow_sub_one, Nat.testBit_or, Nat.testBit_mul_two_pow, Nat.testBit_div_two_pow, Nat.testBit_mod_two_pow]
  by_cases h : i < 64
  · by_cases h1 : i < n
    · simp [h, h1, show ¬ n ≤ i by omega, show ¬ 32 + n ≤ i by omega]
    · by_cases h2 : i < 32 + n
      · simp [h1, show n ≤ i by omega, show ¬ 32 + n ≤ i by omega, show i - n < 32 by omega]
      · simp [h, h1, show n ≤ i by omega, show 32 + n ≤ i by omega, show ¬ i - n < 32 by omega, show i - (32 + n) + (32 + n) = i by omega]
  · have : a.testBit i = false := Nat.testBit_lt_two_pow (Nat.lt_of_lt_of_le ha (Nat.pow_le_pow_right (show 2 > 0 by decide) (show 64 ≤ i by omega)))
    by_cases h2 : 32 + n ≤ i
    · simp [h, this, h2, show i - (32 + n) + (32 + n) = i by omega]
    · simp [this, h2]
theorem gap_or (A r l n : Nat) (hr : r < 2 ^ 32) (hl : l < 2 ^ n) : A * 2 ^ (32 + n) ||| l ||| r * 2 ^ n = A * 2 ^ (32 + n) + (r * 2 ^ n + l) := by
  have e1 := Nat.two_pow_add_eq_or_of_lt hl r
  have hp : 0 < 2 ^ n := Nat.pow_pos (by decide)
  have h2 : 2 ^ n * r + l < 2 ^ (32 + n) := by
    rw [Nat.pow_add, Nat.mul_comm (2 ^ 32)]
    have : 2 ^ n * (r + 1) ≤ 2 ^ n * 2 ^ 32 := Nat.mul_le_mul_left _ hr
    rw [Nat.mul_add, Nat.mul_one] at this
    omega
  have e2 := Nat.two_pow_add_eq_or_of_lt h2 A
  rw [Nat.or_assoc, Nat.or_comm l, Nat.mul_comm r, ← e1, Nat.mul_comm A, ← e2]
def shN (B p : Nat) : Nat := B * p % 18446744073709551616 / 4294967296
def gapS (B r p q : Nat) : Nat := B / p * p + (r * q + B % q)
def gapV (B p q : Nat) : Nat := B / p * p ||| B % q
theorem got_0 (a b reg : Nat) (ha : a < 4294967296) (hb : b < 4294967296) (hr : reg < 4294967296) : layN false (layN true reg a 0) a 0 = shN (a * 4294967296 + b) 1 := by
  have e1 : layN true reg a 0 = (a * 1 % 4294967296 + reg % 1) := rfl
  generalize layN true reg a 0 = g at *
  show (g / 4294967296 * 4294967296 + a / 1) = (a * 4294967296 + b) * 1 % 18446744073709551616 / 4294967296
  omega
theorem put_0 (a reg : Nat) (ha : a < 4294967296) (hr : reg < 4294967296) : layN false a reg 0 = reg ∧ layN true reg reg 0 = reg := by
  refine ⟨?_, ?_⟩
  · show (a / 4294967296 * 4294967296 + reg / 1) = _
    omega
  · show (reg * 1 % 4294967296 + reg % 1) = _
    omega
set_option maxHeartbeats 2000000 in
theorem una_0 (a b reg : Nat) (x : Int) (hx : x.tmod 4 = 0) (hx2 : x % 4 = 0) (hx0 : 0 ≤ x) (ha : a < 4294967296) (hb : b < 4294967296) (hr : reg < 4294967296) (w : World) : Calls Try.prog 6 #[.int .u32 (a : Int), .int .u32 (b : Int), .int .u32 (reg : Int), .int .u8 x] w fun e w' => e = .returned (.bool true) ∧ Below w.heap.size w w' := by
  have lg := lay_lt true reg a 0 hr ha (by decide)
  have lx := lay_lt false a reg 0 ha hr (by decide)
  have ly := lay_lt true b reg 0 hb hr (by decide)
  have hj : bits .or .u64 ((a : Int) * 4294967296) (b : Int) = ((a * 4294967296 + b : Nat) : Int) := join_key a b ha hb
  have hg := got_0 a b reg ha hb hr
  have K1 : Hid (∀ w, Calls Try.prog 13 #[.int .u32 (reg : Int), .int .u32 (a : Int), .int .i64 0] w fun e w' => e = .returned (.int .u32 ((layN true reg a 0 : Nat) : Int)) ∧ Below w.heap.size w w') := fun w => by
    have h := loadLeft13 reg a 0 hr ha w
    rw [show aheadN 0 = 0 from by decide] at h
    exact h
  have K2 : Hid (∀ w, Calls Try.prog 15 #[.int .u32 ((layN true reg a 0 : Nat) : Int), .int .u32 (a : Int), .int .i64 3] w fun e w' => e = .returned (.int .u32 ((layN false (layN true reg a 0) a 0 : Nat) : Int)) ∧ Below w.heap.size w w') := fun w => by
    have h := loadRight15 (layN true reg a 0) a 3 lg ha w
    rw [show behindN 3 = 0 from by decide] at h
    exact h
  have K3 : Hid (∀ w, Calls Try.prog 17 #[.int .u32 (a : Int), .int .u32 (reg : Int), .int .i64 0] w fun e w' => e = .returned (.int .u32 ((layN false a reg 0 : Nat) : Int)) ∧ Below w.heap.size w w') := fun w => by
    have h := storeLeft17 a reg 0 ha hr w
    rw [show aheadN 0 = 0 from by decide] at h
    exact h
  obtain ⟨p1, p2⟩ := put_0 a reg ha hr
  rw [p1] at K3 lx
  have K4 : Hid (∀ w, Calls Try.prog 19 #[.int .u32 (reg : Int), .int .u32 (reg : Int), .int .i64 3] w fun e w' => e = .returned (.int .u32 (reg : Int)) ∧ Below w.heap.size w w') := fun w => by
    have h := storeRight19 reg reg 3 hr hr w
    rw [show behindN 3 = 0 from by decide, p2] at h
    exact h
  rw [hg] at K2
  have hB : a * 4294967296 + b < 18446744073709551616 := by omega
  obtain ⟨B, hBe⟩ : ∃ B, B = a * 4294967296 + b := ⟨_, rfl⟩
  rw [← hBe] at hj K2 hB
  have hW : IntKind.u64.wrap (B : Int) / 4294967296 = ((shN B 1 : Nat) : Int) := by unfold shN; rw [IntKind.wrap_u64]; omega
  have hW2 : shN B 1 < 4294967296 := by unfold shN; omega
  generalize shN B 1 = Z at *
  have KA : Hid (∀ w, Calls Try.prog 12 #[] w fun e w' => e = .returned (.bool true) ∧ Below w.heap.size w w') := awake12
  generalize layN true reg a 0 = G at *
  clear hg p1 p2 hB hBe
  go_enter Try.func6, Try.ntmps6
  go_wp2_with fail
  refine (K1.out _).mono ?_
  rintro e w1 ⟨rfl, h1⟩
  go_wp2_with fail
  refine (K2.out _).mono ?_
  rintro e w2 ⟨rfl, h2⟩
  go_wp2_with fail
  refine (K3.out _).mono ?_
  rintro e w3 ⟨rfl, h3⟩
  go_wp2_with fail
  refine (K4.out _).mono ?_
  rintro e w4 ⟨rfl, h4⟩
  go_wp2_with fail
  refine (KA.out _).mono ?_
  rintro e w5 ⟨rfl, h5⟩
  go_wp2
  go_ret
  exact ⟨rfl, below_tr h1 (below_tr h2 (below_tr h3 (below_tr h4 (h5))))⟩
theorem got_1 (a b reg : Nat) (ha : a < 4294967296) (hb : b < 4294967296) (hr : reg < 4294967296) : layN false (layN true reg a 1) b 3 = shN (a * 4294967296 + b) 256 := by
  have e1 : layN true reg a 1 = (a * 256 % 4294967296 + reg % 256) := rfl
  generalize layN true reg a 1 = g at *
  show (g / 256 * 256 + b / 16777216) = (a * 4294967296 + b) * 256 % 18446744073709551616 / 4294967296
  omega
theorem put_1 (a b reg : Nat) (ha : a < 4294967296) (hb : b < 4294967296) (hr : reg < 4294967296) : layN false a reg 1 * 4294967296 + layN true b reg 3 = gapS (a * 4294967296 + b) reg 72057594037927936 16777216 := by
  show (a / 16777216 * 16777216 + reg / 256) * 4294967296 + (reg * 16777216 % 4294967296 + b % 16777216) = (a * 4294967296 + b) / 72057594037927936 * 72057594037927936 + (reg * 16777216 + (a * 4294967296 + b) % 16777216)
  omega
set_option maxHeartbeats 2000000 in
theorem una_1 (a b reg : Nat) (x : Int) (hx : x.tmod 4 = 1) (hx2 : x % 4 = 1) (hx0 : 0 ≤ x) (ha : a < 4294967296) (hb : b < 4294967296) (hr : reg < 4294967296) (w : World) : Calls Try.prog 6 #[.int .u32 (a : Int), .int .u32 (b : Int), .int .u32 (reg : Int), .int .u8 x] w fun e w' => e = .returned (.bool true) ∧ Below w.heap.size w w' := by
  have lg := lay_lt true reg a 1 hr ha (by decide)
  have lx := lay_lt false a reg 1 ha hr (by decide)
  have ly := lay_lt true b reg 3 hb hr (by decide)
  have hj : bits .or .u64 ((a : Int) * 4294967296) (b : Int) = ((a * 4294967296 + b : Nat) : Int) := join_key a b ha hb
  have hg := got_1 a b reg ha hb hr
  have K1 : Hid (∀ w, Calls Try.prog 13 #[.int .u32 (reg : Int), .int .u32 (a : Int), .int .i64 1] w fun e w' => e = .returned (.int .u32 ((layN true reg a 1 : Nat) : Int)) ∧ Below w.heap.size w w') := fun w => by
    have h := loadLeft13 reg a 1 hr ha w
    rw [show aheadN 1 = 1 from by decide] at h
    exact h
  have K2 : Hid (∀ w, Calls Try.prog 15 #[.int .u32 ((layN true reg a 1 : Nat) : Int), .int .u32 (b : Int), .int .i64 4] w fun e w' => e = .returned (.int .u32 ((layN false (layN true reg a 1) b 3 : Nat) : Int)) ∧ Below w.heap.size w w') := fun w => by
    have h := loadRight15 (layN true reg a 1) b 4 lg hb w
    rw [show behindN 4 = 3 from by decide] at h
    exact h
  have K3 : Hid (∀ w, Calls Try.prog 17 #[.int .u32 (a : Int), .int .u32 (reg : Int), .int .i64 1] w fun e w' => e = .returned (.int .u32 ((layN false a reg 1 : Nat) : Int)) ∧ Below w.heap.size w w') := fun w => by
    have h := storeLeft17 a reg 1 ha hr w
    rw [show aheadN 1 = 1 from by decide] at h
    exact h
  have K4 : Hid (∀ w, Calls Try.prog 19 #[.int .u32 (b : Int), .int .u32 (reg : Int), .int .i64 4] w fun e w' => e = .returned (.int .u32 ((layN true b reg 3 : Nat) : Int)) ∧ Below w.heap.size w w') := fun w => by
    have h := storeRight19 b reg 4 hb hr w
    rw [show behindN 4 = 3 from by decide] at h
    exact h
  have hp := put_1 a b reg ha hb hr
  have hj2 : bits .or .u64 (((layN false a reg 1 : Nat) : Int) * 4294967296) ((layN true b reg 3 : Nat) : Int) = ((layN false a reg 1 * 4294967296 + layN true b reg 3 : Nat) : Int) := join_key _ _ lx ly
  rw [hp] at hj2
  rw [hg] at K2
  have hB : a * 4294967296 + b < 18446744073709551616 := by omega
  obtain ⟨B, hBe⟩ : ∃ B, B = a * 4294967296 + b := ⟨_, rfl⟩
  rw [← hBe] at hj K2 hB hj2
  have hW : IntKind.u64.wrap ((B : Int) * 256) / 4294967296 = ((shN B 256 : Nat) : Int) := by unfold shN; rw [IntKind.wrap_u64]; omega
  have hW2 : shN B 256 < 4294967296 := by unfold shN; omega
  generalize shN B 256 = Z at *
  have hm : bits .andNot .u64 (B : Int) 72057594021150720 = ((gapV B 72057594037927936 16777216 : Nat) : Int) := by
    have e := andNot_u64 B 72057594021150720 hB (by decide)
    rw [show 18446744073709551615 - 72057594021150720 = 2 ^ 64 - (72057594021150720 + 1) from by decide, and_gap B 24 72057594021150720 hB (by decide) (by decide) (by decide)] at e
    exact e
  have hM2 : bits .or .u64 ((gapV B 72057594037927936 16777216 : Nat) : Int) ((reg : Int) * 16777216) = ((gapS B reg 72057594037927936 16777216 : Nat) : Int) := by
    have l1 : gapV B 72057594037927936 16777216 < 18446744073709551616 := Nat.or_lt_two_pow (n := 64) (by omega) (by omega)
    rw [show (reg : Int) * 16777216 = ((reg * 16777216 : Nat) : Int) from by simp, or_u64 _ _ l1 (by omega)]
    have e := gap_or (B / 72057594037927936) reg (B % 16777216) 24 hr (Nat.mod_lt _ (by decide))
    exact congrArg Int.ofNat e
  generalize gapS B reg 72057594037927936 16777216 = Y at *
  generalize gapV B 72057594037927936 16777216 = V at *
  have KA : Hid (∀ w, Calls Try.prog 12 #[] w fun e w' => e = .returned (.bool true) ∧ Below w.heap.size w w') := awake12
  generalize layN true reg a 1 = G at *
  generalize layN false a reg 1 = X at *
  generalize layN true b reg 3 = W at *
  clear hg hp hB hBe
  go_enter Try.func6, Try.ntmps6
  go_wp2_with fail
  refine (K1.out _).mono ?_
  rintro e w1 ⟨rfl, h1⟩
  go_wp2_with fail
  refine (K2.out _).mono ?_
  rintro e w2 ⟨rfl, h2⟩
  go_wp2_with fail
  refine (K3.out _).mono ?_
  rintro e w3 ⟨rfl, h3⟩
  go_wp2_with fail
  refine (K4.out _).mono ?_
  rintro e w4 ⟨rfl, h4⟩
  go_wp2_with fail
  refine (KA.out _).mono ?_
  rintro e w5 ⟨rfl, h5⟩
  go_wp2
  go_ret
  exact ⟨rfl, below_tr h1 (below_tr h2 (below_tr h3 (below_tr h4 (h5))))⟩
theorem got_2 (a b reg : Nat) (ha : a < 4294967296) (hb : b < 4294967296) (hr : reg < 4294967296) : layN false (layN true reg a 2) b 2 = shN (a * 4294967296 + b) 65536 := by
  have e1 : layN true reg a 2 = (a * 65536 % 4294967296 + reg % 65536) := rfl
  generalize layN true reg a 2 = g at *
  show (g / 65536 * 65536 + b / 65536) = (a * 4294967296 + b) * 65536 % 18446744073709551616 / 4294967296
  omega
theorem put_2 (a b reg : Nat) (ha : a < 4294967296) (hb : b < 4294967296) (hr : reg < 4294967296) : layN false a reg 2 * 4294967296 + layN true b reg 2 = gapS (a * 4294967296 + b) reg 281474976710656 65536 := by
  show (a / 65536 * 65536 + reg / 65536) * 4294967296 + (reg * 65536 % 4294967296 + b % 65536) = (a * 4294967296 + b) / 281474976710656 * 281474976710656 + (reg * 65536 + (a * 4294967296 + b) % 65536)
  omega
set_option maxHeartbeats 2000000 in
theorem una_2 (a b reg : Nat) (x : Int) (hx : x.tmod 4 = 2) (hx2 : x % 4 = 2) (hx0 : 0 ≤ x) (ha : a < 4294967296) (hb : b < 4294967296) (hr : reg < 4294967296) (w : World) : Calls Try.prog 6 #[.int .u32 (a : Int), .int .u32 (b : Int), .int .u32 (reg : Int), .int .u8 x] w fun e w' => e = .returned (.bool true) ∧ Below w.heap.size w w' := by
  have lg := lay_lt true reg a 2 hr ha (by decide)
  have lx := lay_lt false a reg 2 ha hr (by decide)
  have ly := lay_lt true b reg 2 hb hr (by decide)
  have hj : bits .or .u64 ((a : Int) * 4294967296) (b : Int) = ((a * 4294967296 + b : Nat) : Int) := join_key a b ha hb
  have hg := got_2 a b reg ha hb hr
  have K1 : Hid (∀ w, Calls Try.prog 13 #[.int .u32 (reg : Int), .int .u32 (a : Int), .int .i64 2] w fun e w' => e = .returned (.int .u32 ((layN true reg a 2 : Nat) : Int)) ∧ Below w.heap.size w w') := fun w => by
    have h := loadLeft13 reg a 2 hr ha w
    rw [show aheadN 2 = 2 from by decide] at h
    exact h
  have K2 : Hid (∀ w, Calls Try.prog 15 #[.int .u32 ((layN true reg a 2 : Nat) : Int), .int .u32 (b : Int), .int .i64 5] w fun e w' => e = .returned (.int .u32 ((layN false (layN true reg a 2) b 2 : Nat) : Int)) ∧ Below w.heap.size w w') := fun w => by
    have h := loadRight15 (layN true reg a 2) b 5 lg hb w
    rw [show behindN 5 = 2 from by decide] at h
    exact h
  have K3 : Hid (∀ w, Calls Try.prog 17 #[.int .u32 (a : Int), .int .u32 (reg : Int), .int .i64 2] w fun e w' => e = .returned (.int .u32 ((layN false a reg 2 : Nat) : Int)) ∧ Below w.heap.size w w') := fun w => by
    have h := storeLeft17 a reg 2 ha hr w
    rw [show aheadN 2 = 2 from by decide] at h
    exact h
  have K4 : Hid (∀ w, Calls Try.prog 19 #[.int .u32 (b : Int), .int .u32 (reg : Int), .int .i64 5] w fun e w' => e = .returned (.int .u32 ((layN true b reg 2 : Nat) : Int)) ∧ Below w.heap.size w w') := fun w => by
    have h := storeRight19 b reg 5 hb hr w
    rw [show behindN 5 = 2 from by decide] at h
    exact h
  have hp := put_2 a b reg ha hb hr
  have hj2 : bits .or .u64 (((layN false a reg 2 : Nat) : Int) * 4294967296) ((layN true b reg 2 : Nat) : Int) = ((layN false a reg 2 * 4294967296 + layN true b reg 2 : Nat) : Int) := join_key _ _ lx ly
  rw [hp] at hj2
  rw [hg] at K2
  have hB : a * 4294967296 + b < 18446744073709551616 := by omega
  obtain ⟨B, hBe⟩ : ∃ B, B = a * 4294967296 + b := ⟨_, rfl⟩
  rw [← hBe] at hj K2 hB hj2
  have hW : IntKind.u64.wrap ((B : Int) * 65536) / 4294967296 = ((shN B 65536 : Nat) : Int) := by unfold shN; rw [IntKind.wrap_u64]; omega
  have hW2 : shN B 65536 < 4294967296 := by unfold shN; omega
  generalize shN B 65536 = Z at *
  have hm : bits .andNot .u64 (B : Int) 281474976645120 = ((gapV B 281474976710656 65536 : Nat) : Int) := by
    have e := andNot_u64 B 281474976645120 hB (by decide)
    rw [show 18446744073709551615 - 281474976645120 = 2 ^ 64 - (281474976645120 + 1) from by decide, and_gap B 16 281474976645120 hB (by decide) (by decide) (by decide)] at e
    exact e
  have hM2 : bits .or .u64 ((gapV B 281474976710656 65536 : Nat) : Int) ((reg : Int) * 65536) = ((gapS B reg 281474976710656 65536 : Nat) : Int) := by
    have l1 : gapV B 281474976710656 65536 < 18446744073709551616 := Nat.or_lt_two_pow (n := 64) (by omega) (by omega)
    rw [show (reg : Int) * 65536 = ((reg * 65536 : Nat) : Int) from by simp, or_u64 _ _ l1 (by omega)]
    have e := gap_or (B / 281474976710656) reg (B % 65536) 16 hr (Nat.mod_lt _ (by decide))
    exact congrArg Int.ofNat e
  generalize gapS B reg 281474976710656 65536 = Y at *
  generalize gapV B 281474976710656 65536 = V at *
  have KA : Hid (∀ w, Calls Try.prog 12 #[] w fun e w' => e = .returned (.bool true) ∧ Below w.heap.size w w') := awake12
  generalize layN true reg a 2 = G at *
  generalize layN false a reg 2 = X at *
  generalize layN true b reg 2 = W at *
  clear hg hp hB hBe
  go_enter Try.func6, Try.ntmps6
  go_wp2_with fail
  refine (K1.out _).mono ?_
  rintro e w1 ⟨rfl, h1⟩
  go_wp2_with fail
  refine (K2.out _).mono ?_
  rintro e w2 ⟨rfl, h2⟩
  go_wp2_with fail
  refine (K3.out _).mono ?_
  rintro e w3 ⟨rfl, h3⟩
  go_wp2_with fail
  refine (K4.out _).mono ?_
  rintro e w4 ⟨rfl, h4⟩
  go_wp2_with fail
  refine (KA.out _).mono ?_
  rintro e w5 ⟨rfl, h5⟩
  go_wp2
  go_ret
  exact ⟨rfl, below_tr h1 (below_tr h2 (below_tr h3 (below_tr h4 (h5))))⟩
theorem got_3 (a b reg : Nat) (ha : a < 4294967296) (hb : b < 4294967296) (hr : reg < 4294967296) : layN false (layN true reg a 3) b 1 = shN (a * 4294967296 + b) 16777216 := by
  have e1 : layN true reg a 3 = (a * 16777216 % 4294967296 + reg % 16777216) := rfl
  generalize layN true reg a 3 = g at *
  show (g / 16777216 * 16777216 + b / 256) = (a * 4294967296 + b) * 16777216 % 18446744073709551616 / 4294967296
  omega
theorem put_3 (a b reg : Nat) (ha : a < 4294967296) (hb : b < 4294967296) (hr : reg < 4294967296) : layN false a reg 3 * 4294967296 + layN true b reg 1 = gapS (a * 4294967296 + b) reg 1099511627776 256 := by
  show (a / 256 * 256 + reg / 16777216) * 4294967296 + (reg * 256 % 4294967296 + b % 256) = (a * 4294967296 + b) / 1099511627776 * 1099511627776 + (reg * 256 + (a * 4294967296 + b) % 256)
  omega
set_option maxHeartbeats 2000000 in
theorem una_3 (a b reg : Nat) (x : Int) (hx : x.tmod 4 = 3) (hx2 : x % 4 = 3) (hx0 : 0 ≤ x) (ha : a < 4294967296) (hb : b < 4294967296) (hr : reg < 4294967296) (w : World) : Calls Try.prog 6 #[.int .u32 (a : Int), .int .u32 (b : Int), .int .u32 (reg : Int), .int .u8 x] w fun e w' => e = .returned (.bool true) ∧ Below w.heap.size w w' := by
  have lg := lay_lt true reg a 3 hr ha (by decide)
  have lx := lay_lt false a reg 3 ha hr (by decide)
  have ly := lay_lt true b reg 1 hb hr (by decide)
  have hj : bits .or .u64 ((a : Int) * 4294967296) (b : Int) = ((a * 4294967296 + b : Nat) : Int) := join_key a b ha hb
  have hg := got_3 a b reg ha hb hr
  have K1 : Hid (∀ w, Calls Try.prog 13 #[.int .u32 (reg : Int), .int .u32 (a : Int), .int .i64 3] w fun e w' => e = .returned (.int .u32 ((layN true reg a 3 : Nat) : Int)) ∧ Below w.heap.size w w') := fun w => by
    have h := loadLeft13 reg a 3 hr ha w
    rw [show aheadN 3 = 3 from by decide] at h
    exact h
  have K2 : Hid (∀ w, Calls Try.prog 15 #[.int .u32 ((layN true reg a 3 : Nat) : Int), .int .u32 (b : Int), .int .i64 6] w fun e w' => e = .returned (.int .u32 ((layN false (layN true reg a 3) b 1 : Nat) : Int)) ∧ Below w.heap.size w w') := fun w => by
    have h := loadRight15 (layN true reg a 3) b 6 lg hb w
    rw [show behindN 6 = 1 from by decide] at h
    exact h
  have K3 : Hid (∀ w, Calls Try.prog 17 #[.int .u32 (a : Int), .int .u32 (reg : Int), .int .i64 3] w fun e w' => e = .returned (.int .u32 ((layN false a reg 3 : Nat) : Int)) ∧ Below w.heap.size w w') := fun w => by
    have h := storeLeft17 a reg 3 ha hr w
    rw [show aheadN 3 = 3 from by decide] at h
    exact h
  have K4 : Hid (∀ w, Calls Try.prog 19 #[.int .u32 (b : Int), .int .u32 (reg : Int), .int .i64 6] w fun e w' => e = .returned (.int .u32 ((layN true b reg 1 : Nat) : Int)) ∧ Below w.heap.size w w') := fun w => by
    have h := storeRight19 b reg 6 hb hr w
    rw [show behindN 6 = 1 from by decide] at h
    exact h
  have hp := put_3 a b reg ha hb hr
  have hj2 : bits .or .u64 (((layN false a reg 3 : Nat) : Int) * 4294967296) ((layN true b reg 1 : Nat) : Int) = ((layN false a reg 3 * 4294967296 + layN true b reg 1 : Nat) : Int) := join_key _ _ lx ly
  rw [hp] at hj2
  rw [hg] at K2
  have hB : a * 4294967296 + b < 18446744073709551616 := by omega
  obtain ⟨B, hBe⟩ : ∃ B, B = a * 4294967296 + b := ⟨_, rfl⟩
  rw [← hBe] at hj K2 hB hj2
  have hW : IntKind.u64.wrap ((B : Int) * 16777216) / 4294967296 = ((shN B 16777216 : Nat) : Int) := by unfold shN; rw [IntKind.wrap_u64]; omega
  have hW2 : shN B 16777216 < 4294967296 := by unfold shN; omega
  generalize shN B 16777216 = Z at *
  have hm : bits .andNot .u64 (B : Int) 1099511627520 = ((gapV B 1099511627776 256 : Nat) : Int) := by
    have e := andNot_u64 B 1099511627520 hB (by decide)
    rw [show 18446744073709551615 - 1099511627520 = 2 ^ 64 - (1099511627520 + 1) from by decide, and_gap B 8 1099511627520 hB (by decide) (by decide) (by decide)] at e
    exact e
  have hM2 : bits .or .u64 ((gapV B 1099511627776 256 : Nat) : Int) ((reg : Int) * 256) = ((gapS B reg 1099511627776 256 : Nat) : Int) := by
    have l1 : gapV B 1099511627776 256 < 18446744073709551616 := Nat.or_lt_two_pow (n := 64) (by omega) (by omega)
    rw [show (reg : Int) * 256 = ((reg * 256 : Nat) : Int) from by simp, or_u64 _ _ l1 (by omega)]
    have e := gap_or (B / 1099511627776) reg (B % 256) 8 hr (Nat.mod_lt _ (by decide))
    exact congrArg Int.ofNat e
  generalize gapS B reg 1099511627776 256 = Y at *
  generalize gapV B 1099511627776 256 = V at *
  have KA : Hid (∀ w, Calls Try.prog 12 #[] w fun e w' => e = .returned (.bool true) ∧ Below w.heap.size w w') := awake12
  generalize layN true reg a 3 = G at *
  generalize layN false a reg 3 = X at *
  generalize layN true b reg 1 = W at *
  clear hg hp hB hBe
  go_enter Try.func6, Try.ntmps6
  go_wp2_with fail
  refine (K1.out _).mono ?_
  rintro e w1 ⟨rfl, h1⟩
  go_wp2_with fail
  refine (K2.out _).mono ?_
  rintro e w2 ⟨rfl, h2⟩
  go_wp2_with fail
  refine (K3.out _).mono ?_
  rintro e w3 ⟨rfl, h3⟩
  go_wp2_with fail
  refine (K4.out _).mono ?_
  rintro e w4 ⟨rfl, h4⟩
  go_wp2_with fail
  refine (KA.out _).mono ?_
  rintro e w5 ⟨rfl, h5⟩
  go_wp2
  go_ret
  exact ⟨rfl, below_tr h1 (below_tr h2 (below_tr h3 (below_tr h4 (h5))))⟩
end Go.Proofs.Ytbdhgfjhgfohcaa
