/- What is proved here: Round, by the document: its plain answer. -/
import Derived.Test.YtlchjfdnkplmmaaRround
namespace Go.Proofs.Ytlchjfdnkplmmaa
open Go.RowKit

theorem wrap_nat64 (n : Nat) (h : n < 18446744073709551616) : IntKind.u64.wrap (n : Int) = (n : Int) := by
  rw [IntKind.wrap_u64]; omega
theorem class_beq3 (a : Nat) (hf : rung a < infR) : ((classN a : Int) == 3) = false := by
  have : classN a ≠ 3 := by unfold classN; unfold infR at hf; (repeat' split) <;> omega
  simp; omega
theorem or_sign (n : Nat) (h : n < 9223372036854775808) : bits .or .u64 9223372036854775808 (n : Int) = ((9223372036854775808 + n : Nat) : Int) := by
  have h1 := bits_or_u64_nat 9223372036854775808 n (by decide) (by omega)
  refine h1.trans ?_
  congr 1
  have e : (9223372036854775808 : Nat) = 2 ^ 63 := by decide
  rw [e] at h ⊢
  have := Nat.two_pow_add_eq_or_of_lt (i := 63) h 1
  simpa using this.symm
theorem or_nought (n : Nat) (h : n < 18446744073709551616) : bits .or .u64 0 (n : Int) = (n : Int) := by
  have h1 := bits_or_u64_nat 0 n (by decide) h
  refine h1.trans ?_
  rw [Nat.zero_or]
/-- The parts of a number with digits behind the point. -/
theorem parts (r : Nat) (h1 : 4607182418800017408 ≤ r) (h2 : r < 4841369599423283200) : ∃ q low rest down half quo : Nat,
    q = r / 4503599627370496 ∧ low = 2 ^ (1075 - q) ∧ rest = r % low ∧ down = r - rest ∧ half = low / 2 ∧ quo = down / low ∧
    1023 ≤ q ∧ q < 1075 ∧ IntKind.u64.wrap (2 ^ (52 - (q - 1023))) = (low : Int) ∧ 0 < low ∧ low ≤ 4503599627370496 ∧ 0 < half ∧
    (r : Int) % (low : Int) = (rest : Int) ∧ IntKind.u64.wrap ((r : Int) - (rest : Int)) = (down : Int) ∧ IntKind.u64.wrap ((down : Int) + (low : Int)) = ((down + low : Nat) : Int) ∧
    (low : Int) / 2 = (half : Int) ∧ IntKind.u64.wrap (half : Int) = (half : Int) ∧ IntKind.u64.wrap ((down : Int) / (low : Int)) = (quo : Int) ∧ down ≤ r ∧ r < 4841369599423283200 ∧
    ∀ t s, refR t s r = if (upOf t s (decide (half < rest) || (decide (rest = half) && (decide (q = 1023) || decide (quo % 2 = 1)))) && decide (0 < rest)) = true then down + low else down := by
  refine ⟨_, _, _, _, _, _, rfl, rfl, rfl, rfl, rfl, rfl, ?_⟩
  have hq1 : 1023 ≤ r / 4503599627370496 := by omega
  have hq2 : r / 4503599627370496 < 1075 := by omega
  have href : ∀ t s, refR t s r = if (upOf t s (decide (2 ^ (1075 - r / 4503599627370496) / 2 < r % 2 ^ (1075 - r / 4503599627370496)) || (decide (r % 2 ^ (1075 - r / 4503599627370496) = 2 ^ (1075 - r / 4503599627370496) / 2) && (decide (r / 4503599627370496 = 1023) || decide ((r - r % 2 ^ (1075 - r / 4503599627370496)) / 2 ^ (1075 - r / 4503599627370496) % 2 = 1)))) && decide (0 < r % 2 ^ (1075 - r / 4503599627370496))) = true then r - r % 2 ^ (1075 - r / 4503599627370496) + 2 ^ (1075 - r / 4503599627370496) else r - r % 2 ^ (1075 - r / 4503599627370496) := fun t s => by
    unfold refR
    rw [if_neg (show ¬ 4841369599423283200 ≤ r by omega), if_neg (show ¬ r < 4607182418800017408 by omega)]
  generalize r / 4503599627370496 = q at *
  have hk : 52 - (q - 1023) = 1075 - q := by omega
  have hp := Nat.two_pow_pos (1075 - q)
  have hle : 2 ^ (1075 - q) ≤ 4503599627370496 := Nat.pow_le_pow_right (show 0 < 2 by decide) (show 1075 - q ≤ 52 by omega)
  have hge : 2 ≤ 2 ^ (1075 - q) := by
    have := Nat.pow_le_pow_right (show 0 < 2 by decide) (show 1 ≤ 1075 - q by omega)
    simpa using this
  have hpc : ((2 : Int) ^ (1075 - q)) = ((2 ^ (1075 - q) : Nat) : Int) := by simp
  have hwrap : IntKind.u64.wrap (2 ^ (52 - (q - 1023))) = ((2 ^ (1075 - q) : Nat) : Int) := by
    rw [hk, hpc]; exact wrap_nat64 _ (by omega)
  generalize 2 ^ (1075 - q) = low at *
  have hml := Nat.mod_lt r hp
  have hmle := Nat.mod_le r low
  have hdl : (r - r % low) / low ≤ r - r % low := Nat.div_le_self _ _
  refine ⟨hq1, hq2, hwrap, hp, hle, by omega, by simp, ?_, ?_, by omega, wrap_nat64 _ (by omega), ?_, by omega, h2, href⟩
  · have e : (r : Int) - ((r % low : Nat) : Int) = ((r - r % low : Nat) : Int) := by omega
    rw [e]; exact wrap_nat64 _ (by omega)
  · have e : ((r - r % low : Nat) : Int) + (low : Int) = ((r - r % low + low : Nat) : Int) := by omega
    rw [e]; exact wrap_nat64 _ (by omega)
  · have e : ((r - r % low : Nat) : Int) / (low : Int) = (((r - r % low) / low : Nat) : Int) := by simp
    rw [e]; exact wrap_nat64 _ (by omega)
theorem rr0_0 (a : Nat) (hA : a < 18446744073709551616) (hf : rung a < infR) (hs : sgn a = false) (w : World) :
    Calls Try.prog 27 #[.int .u64 (a : Int), .int .i64 0] w fun e w' => e = .returned (.int .u64 ((roundW .zero a : Nat) : Int)) ∧ w' = w := by
  have C1 : Hid (∀ w, Calls Try.prog 10 #[.int .u64 (a : Int)] w fun e w' => e = .returned (.int .i64 (classN a : Nat)) ∧ w' = w) := rclass_any a hA
  have k4 := class_beq a (by unfold isNone; omega)
  have k3 := class_beq3 a hf
  generalize classN a = ca at *
  rcases Nat.lt_or_ge (rung a) 4841369599423283200 with g | g
  rotate_left
  · rw [roundW_big .zero a hA hf g]
    exact big_any a (a / 4503599627370496 % 2048) ca 0 w hA C1 k4 k3 (by decide) (by decide) (by omega) (by unfold rung at g; omega) (by omega)
  have e := roundW_ref .zero a hA hf
  rw [hs] at e
  rw [e, word_def]
  have hr : rung a = a := by have := word_self a hA; rw [hs, word_def] at this; simpa using this
  rw [hr] at g ⊢
  have h63 : (a : Int) / 9223372036854775808 = 0 := by omega
  simp only [Bool.false_eq_true, if_false]
  rcases Nat.lt_or_ge a 4607182418800017408 with g2 | g2
  · have er : refR .zero false a = 0 := by
      unfold refR; rw [if_neg (show ¬ 4841369599423283200 ≤ a by omega), if_pos g2]; simp [upOf]
    rw [er]
    exact low0_0 a (a / 4503599627370496 % 2048) ca w hA C1 k4 k3 h63 (by omega) (by omega)
  · obtain ⟨q, low, rest, down, half, quo, eq, -, -, -, -, -, hq1, hq2, hl, hl0, hl52, hh0, hm, hd, hu, hh, hw2, hv, hdr, -, href⟩ := parts a g2 g
    have hq : (a : Int) / 4503599627370496 % 2048 = (q : Int) := by rw [eq]; omega
    have hx1 := or_nought down (by omega)
    have hx2 := or_nought (down + low) (by omega)
    rw [href]
    have ec : (upOf .zero false (decide (half < rest) || (decide (rest = half) && (decide (q = 1023) || decide (quo % 2 = 1)))) && decide (0 < rest)) = false := by simp [upOf]
    rw [ec]
    exact mid0_0 a q low rest down ca down w hA C1 k4 k3 h63 hq hq1 hq2 hl hl0 hm hd hx1
theorem rr0_1 (a : Nat) (hA : a < 18446744073709551616) (hf : rung a < infR) (hs : sgn a = false) (w : World) :
    Calls Try.prog 27 #[.int .u64 (a : Int), .int .i64 1] w fun e w' => e = .returned (.int .u64 ((roundW .down a : Nat) : Int)) ∧ w' = w := by
  have C1 : Hid (∀ w, Calls Try.prog 10 #[.int .u64 (a : Int)] w fun e w' => e = .returned (.int .i64 (classN a : Nat)) ∧ w' = w) := rclass_any a hA
  have k4 := class_beq a (by unfold isNone; omega)
  have k3 := class_beq3 a hf
  generalize classN a = ca at *
  rcases Nat.lt_or_ge (rung a) 4841369599423283200 with g | g
  rotate_left
  · rw [roundW_big .down a hA hf g]
    exact big_any a (a / 4503599627370496 % 2048) ca 1 w hA C1 k4 k3 (by decide) (by decide) (by omega) (by unfold rung at g; omega) (by omega)
  have e := roundW_ref .down a hA hf
  rw [hs] at e
  rw [e, word_def]
  have hr : rung a = a := by have := word_self a hA; rw [hs, word_def] at this; simpa using this
  rw [hr] at g ⊢
  have h63 : (a : Int) / 9223372036854775808 = 0 := by omega
  simp only [Bool.false_eq_true, if_false]
  rcases Nat.lt_or_ge a 4607182418800017408 with g2 | g2
  · have er : refR .down false a = 0 := by
      unfold refR; rw [if_neg (show ¬ 4841369599423283200 ≤ a by omega), if_pos g2]; simp [upOf]
    rw [er]
    exact low0_1 a (a / 4503599627370496 % 2048) ca w hA C1 k4 k3 h63 (by omega) (by omega)
  · obtain ⟨q, low, rest, down, half, quo, eq, -, -, -, -, -, hq1, hq2, hl, hl0, hl52, hh0, hm, hd, hu, hh, hw2, hv, hdr, -, href⟩ := parts a g2 g
    have hq : (a : Int) / 4503599627370496 % 2048 = (q : Int) := by rw [eq]; omega
    have hx1 := or_nought down (by omega)
    have hx2 := or_nought (down + low) (by omega)
    rw [href]
    have ec : (upOf .down false (decide (half < rest) || (decide (rest = half) && (decide (q = 1023) || decide (quo % 2 = 1)))) && decide (0 < rest)) = false := by simp [upOf]
    rw [ec]
    exact mid0_1 a q low rest down ca down w hA C1 k4 k3 h63 hq hq1 hq2 hl hl0 hm hd hx1
theorem rr0_2 (a : Nat) (hA : a < 18446744073709551616) (hf : rung a < infR) (hs : sgn a = false) (w : World) :
    Calls Try.prog 27 #[.int .u64 (a : Int), .int .i64 2] w fun e w' => e = .returned (.int .u64 ((roundW .up a : Nat) : Int)) ∧ w' = w := by
  have C1 : Hid (∀ w, Calls Try.prog 10 #[.int .u64 (a : Int)] w fun e w' => e = .returned (.int .i64 (classN a : Nat)) ∧ w' = w) := rclass_any a hA
  have k4 := class_beq a (by unfold isNone; omega)
  have k3 := class_beq3 a hf
  generalize classN a = ca at *
  rcases Nat.lt_or_ge (rung a) 4841369599423283200 with g | g
  rotate_left
  · rw [roundW_big .up a hA hf g]
    exact big_any a (a / 4503599627370496 % 2048) ca 2 w hA C1 k4 k3 (by decide) (by decide) (by omega) (by unfold rung at g; omega) (by omega)
  have e := roundW_ref .up a hA hf
  rw [hs] at e
  rw [e, word_def]
  have hr : rung a = a := by have := word_self a hA; rw [hs, word_def] at this; simpa using this
  rw [hr] at g ⊢
  have h63 : (a : Int) / 9223372036854775808 = 0 := by omega
  simp only [Bool.false_eq_true, if_false]
  rcases Nat.lt_or_ge a 4607182418800017408 with g2 | g2
  · have er : refR .up false a = if 0 < a then 4607182418800017408 else 0 := by
      unfold refR; rw [if_neg (show ¬ 4841369599423283200 ≤ a by omega), if_pos g2]; simp [upOf]
    rw [er]
    have k := low0_2 a (a / 4503599627370496 % 2048) ca w hA C1 k4 k3 h63 (by omega) (by omega)
    refine k.mono fun e w' h => ⟨h.1.trans (ret_int ?_), h.2⟩
    split <;> rfl
  · obtain ⟨q, low, rest, down, half, quo, eq, -, -, -, -, -, hq1, hq2, hl, hl0, hl52, hh0, hm, hd, hu, hh, hw2, hv, hdr, -, href⟩ := parts a g2 g
    have hq : (a : Int) / 4503599627370496 % 2048 = (q : Int) := by rw [eq]; omega
    have hx1 := or_nought down (by omega)
    have hx2 := or_nought (down + low) (by omega)
    rw [href]
    have ec : (upOf .up false (decide (half < rest) || (decide (rest = half) && (decide (q = 1023) || decide (quo % 2 = 1)))) && decide (0 < rest)) = decide (0 < rest) := by simp [upOf]
    rw [ec]
    have k := mid0_2 a q low rest down (down + low) (down + low) ca down w hA C1 k4 k3 h63 hq hq1 hq2 hl hl0 hm hd hx1 hu hx2
    refine k.mono fun e w' h => ⟨h.1.trans (ret_int ?_), h.2⟩
    by_cases c : 0 < rest <;> simp [c]
theorem rr0_3 (a : Nat) (hA : a < 18446744073709551616) (hf : rung a < infR) (hs : sgn a = false) (w : World) :
    Calls Try.prog 27 #[.int .u64 (a : Int), .int .i64 3] w fun e w' => e = .returned (.int .u64 ((roundW .even a : Nat) : Int)) ∧ w' = w := by
  have C1 : Hid (∀ w, Calls Try.prog 10 #[.int .u64 (a : Int)] w fun e w' => e = .returned (.int .i64 (classN a : Nat)) ∧ w' = w) := rclass_any a hA
  have k4 := class_beq a (by unfold isNone; omega)
  have k3 := class_beq3 a hf
  generalize classN a = ca at *
  rcases Nat.lt_or_ge (rung a) 4841369599423283200 with g | g
  rotate_left
  · rw [roundW_big .even a hA hf g]
    exact big_any a (a / 4503599627370496 % 2048) ca 3 w hA C1 k4 k3 (by decide) (by decide) (by omega) (by unfold rung at g; omega) (by omega)
  have e := roundW_ref .even a hA hf
  rw [hs] at e
  rw [e, word_def]
  have hr : rung a = a := by have := word_self a hA; rw [hs, word_def] at this; simpa using this
  rw [hr] at g ⊢
  have h63 : (a : Int) / 9223372036854775808 = 0 := by omega
  simp only [Bool.false_eq_true, if_false]
  rcases Nat.lt_or_ge a 4607182418800017408 with g2 | g2
  · by_cases c : 4602678819172646912 < a
    · have er : refR .even false a = 4607182418800017408 := by
        unfold refR; rw [if_neg (show ¬ 4841369599423283200 ≤ a by omega), if_pos g2]; simp [upOf, c]; omega
      rw [er]
      exact low0_3a a (a / 4503599627370496 % 2048) ca w hA C1 k4 k3 h63 (by omega) (by omega) (by omega) (by omega)
    · have er : refR .even false a = 0 := by
        unfold refR; rw [if_neg (show ¬ 4841369599423283200 ≤ a by omega), if_pos g2]; simp [upOf, c]
      rw [er]
      exact low0_3b a (a / 4503599627370496 % 2048) ca w hA C1 k4 k3 h63 (by omega) (by omega) (by rw [decide_eq_false_iff_not]; omega)
  · obtain ⟨q, low, rest, down, half, quo, eq, -, -, -, -, -, hq1, hq2, hl, hl0, hl52, hh0, hm, hd, hu, hh, hw2, hv, hdr, -, href⟩ := parts a g2 g
    have hq : (a : Int) / 4503599627370496 % 2048 = (q : Int) := by rw [eq]; omega
    have hx1 := or_nought down (by omega)
    have hx2 := or_nought (down + low) (by omega)
    rw [href]
    by_cases c1 : half < rest
    · have ec : (upOf .even false (decide (half < rest) || (decide (rest = half) && (decide (q = 1023) || decide (quo % 2 = 1)))) && decide (0 < rest)) = true := by simp [upOf, c1]; omega
      rw [ec]
      exact mid0_3a a q low rest down (down + low) (down + low) half ca down w hA C1 k4 k3 h63 hq hq1 hq2 hl hl0 hm hd hx1 hu hx2 hh hw2 (by omega) (by omega)
    by_cases c2 : rest = half
    · by_cases c3 : q = 1023
      · have ec : (upOf .even false (decide (half < rest) || (decide (rest = half) && (decide (q = 1023) || decide (quo % 2 = 1)))) && decide (0 < rest)) = true := by simp [upOf, c2, c3]; omega
        rw [ec]
        exact mid0_3c a q low rest down (down + low) (down + low) half ca down w hA C1 k4 k3 h63 hq hq1 hq2 hl hl0 hm hd hx1 hu hx2 hh hw2 (by rw [decide_eq_false_iff_not]; omega) (by simp; omega) (by omega) (by simp; omega)
      · by_cases c4 : quo % 2 = 1
        · have ec : (upOf .even false (decide (half < rest) || (decide (rest = half) && (decide (q = 1023) || decide (quo % 2 = 1)))) && decide (0 < rest)) = true := by simp [upOf, c2, c4]; omega
          rw [ec]
          exact mid0_3d a q low rest down (down + low) (down + low) half quo ca down w hA C1 k4 k3 h63 hq hq1 hq2 hl hl0 hm hd hx1 hu hx2 hh hw2 (by rw [decide_eq_false_iff_not]; omega) (by simp; omega) (by omega) (by simp; omega) hv (by simp; omega)
        · have ec : (upOf .even false (decide (half < rest) || (decide (rest = half) && (decide (q = 1023) || decide (quo % 2 = 1)))) && decide (0 < rest)) = false := by simp [upOf, c1, c3, c4]
          rw [ec]
          exact mid0_3e a q low rest down half quo ca down w hA C1 k4 k3 h63 hq hq1 hq2 hl hl0 hm hd hx1 hh hw2 (by rw [decide_eq_false_iff_not]; omega) (by simp; omega) (by omega) (by simp; omega) hv (by simp; omega)
    · have ec : (upOf .even false (decide (half < rest) || (decide (rest = half) && (decide (q = 1023) || decide (quo % 2 = 1)))) && decide (0 < rest)) = false := by simp [upOf, c1, c2]
      rw [ec]
      exact mid0_3b a q low rest down half ca down w hA C1 k4 k3 h63 hq hq1 hq2 hl hl0 hm hd hx1 hh hw2 (by omega) (by rw [decide_eq_false_iff_not]; omega) (by simp; omega)
theorem rr1_0 (a : Nat) (hA : a < 18446744073709551616) (hf : rung a < infR) (hs : sgn a = true) (w : World) :
    Calls Try.prog 27 #[.int .u64 (a : Int), .int .i64 0] w fun e w' => e = .returned (.int .u64 ((roundW .zero a : Nat) : Int)) ∧ w' = w := by
  have C1 : Hid (∀ w, Calls Try.prog 10 #[.int .u64 (a : Int)] w fun e w' => e = .returned (.int .i64 (classN a : Nat)) ∧ w' = w) := rclass_any a hA
  have k4 := class_beq a (by unfold isNone; omega)
  have k3 := class_beq3 a hf
  generalize classN a = ca at *
  rcases Nat.lt_or_ge (rung a) 4841369599423283200 with g | g
  rotate_left
  · rw [roundW_big .zero a hA hf g]
    exact big_any a (a / 4503599627370496 % 2048) ca 0 w hA C1 k4 k3 (by decide) (by decide) (by omega) (by unfold rung at g; omega) (by omega)
  have e := roundW_ref .zero a hA hf
  rw [hs] at e
  rw [e, word_def]
  obtain ⟨r, hr⟩ : ∃ r, rung a = r := ⟨_, rfl⟩
  have hw := word_self a hA
  rw [hs, word_def, hr] at hw
  simp only [if_true] at hw
  rw [hr] at g ⊢
  have h63 : (a : Int) / 9223372036854775808 = 1 := by omega
  have hsz : (a : Int) - 9223372036854775808 = (r : Int) := by omega
  have hrl : r < 9223372036854775808 := by omega
  simp only [if_true]
  rcases Nat.lt_or_ge r 4607182418800017408 with g2 | g2
  · have er : refR .zero true r = 0 := by
      unfold refR; rw [if_neg (show ¬ 4841369599423283200 ≤ r by omega), if_pos g2]; simp [upOf]
    rw [er]
    exact low1_0 a r (a / 4503599627370496 % 2048) ca w hA hrl C1 k4 k3 h63 hsz (by omega) (by omega)
  · obtain ⟨q, low, rest, down, half, quo, eq, -, -, -, -, -, hq1, hq2, hl, hl0, hl52, hh0, hm, hd, hu, hh, hw2, hv, hdr, -, href⟩ := parts r g2 g
    have hq : (a : Int) / 4503599627370496 % 2048 = (q : Int) := by rw [eq]; omega
    have hx1 := or_sign down (by omega)
    have hx2 := or_sign (down + low) (by omega)
    rw [href]
    have ec : (upOf .zero true (decide (half < rest) || (decide (rest = half) && (decide (q = 1023) || decide (quo % 2 = 1)))) && decide (0 < rest)) = false := by simp [upOf]
    rw [ec]
    exact mid1_0 a r q low rest down ca (9223372036854775808 + down) w hA hrl C1 k4 k3 h63 hsz hq hq1 hq2 hl hl0 hm hd hx1
theorem rr1_1 (a : Nat) (hA : a < 18446744073709551616) (hf : rung a < infR) (hs : sgn a = true) (w : World) :
    Calls Try.prog 27 #[.int .u64 (a : Int), .int .i64 1] w fun e w' => e = .returned (.int .u64 ((roundW .down a : Nat) : Int)) ∧ w' = w := by
  have C1 : Hid (∀ w, Calls Try.prog 10 #[.int .u64 (a : Int)] w fun e w' => e = .returned (.int .i64 (classN a : Nat)) ∧ w' = w) := rclass_any a hA
  have k4 := class_beq a (by unfold isNone; omega)
  have k3 := class_beq3 a hf
  generalize classN a = ca at *
  rcases Nat.lt_or_ge (rung a) 4841369599423283200 with g | g
  rotate_left
  · rw [roundW_big .down a hA hf g]
    exact big_any a (a / 4503599627370496 % 2048) ca 1 w hA C1 k4 k3 (by decide) (by decide) (by omega) (by unfold rung at g; omega) (by omega)
  have e := roundW_ref .down a hA hf
  rw [hs] at e
  rw [e, word_def]
  obtain ⟨r, hr⟩ : ∃ r, rung a = r := ⟨_, rfl⟩
  have hw := word_self a hA
  rw [hs, word_def, hr] at hw
  simp only [if_true] at hw
  rw [hr] at g ⊢
  have h63 : (a : Int) / 9223372036854775808 = 1 := by omega
  have hsz : (a : Int) - 9223372036854775808 = (r : Int) := by omega
  have hrl : r < 9223372036854775808 := by omega
  simp only [if_true]
  rcases Nat.lt_or_ge r 4607182418800017408 with g2 | g2
  · have er : refR .down true r = if 0 < r then 4607182418800017408 else 0 := by
      unfold refR; rw [if_neg (show ¬ 4841369599423283200 ≤ r by omega), if_pos g2]; simp [upOf]
    rw [er]
    have k := low1_1 a r (a / 4503599627370496 % 2048) ca w hA hrl C1 k4 k3 h63 hsz (by omega) (by omega)
    refine k.mono fun e w' h => ⟨h.1.trans (ret_int ?_), h.2⟩
    split <;> rfl
  · obtain ⟨q, low, rest, down, half, quo, eq, -, -, -, -, -, hq1, hq2, hl, hl0, hl52, hh0, hm, hd, hu, hh, hw2, hv, hdr, -, href⟩ := parts r g2 g
    have hq : (a : Int) / 4503599627370496 % 2048 = (q : Int) := by rw [eq]; omega
    have hx1 := or_sign down (by omega)
    have hx2 := or_sign (down + low) (by omega)
    rw [href]
    have ec : (upOf .down true (decide (half < rest) || (decide (rest = half) && (decide (q = 1023) || decide (quo % 2 = 1)))) && decide (0 < rest)) = decide (0 < rest) := by simp [upOf]
    rw [ec]
    have k := mid1_1 a r q low rest down (down + low) (9223372036854775808 + (down + low)) ca (9223372036854775808 + down) w hA hrl C1 k4 k3 h63 hsz hq hq1 hq2 hl hl0 hm hd hx1 hu hx2
    refine k.mono fun e w' h => ⟨h.1.trans (ret_int ?_), h.2⟩
    by_cases c : 0 < rest <;> simp [c]
theorem rr1_2 (a : Nat) (hA : a < 18446744073709551616) (hf : rung a < infR) (hs : sgn a = true) (w : World) :
    Calls Try.prog 27 #[.int .u64 (a : Int), .int .i64 2] w fun e w' => e = .returned (.int .u64 ((roundW .up a : Nat) : Int)) ∧ w' = w := by
  have C1 : Hid (∀ w, Calls Try.prog 10 #[.int .u64 (a : Int)] w fun e w' => e = .returned (.int .i64 (classN a : Nat)) ∧ w' = w) := rclass_any a hA
  have k4 := class_beq a (by unfold isNone; omega)
  have k3 := class_beq3 a hf
  generalize classN a = ca at *
  rcases Nat.lt_or_ge (rung a) 4841369599423283200 with g | g
  rotate_left
  · rw [roundW_big .up a hA hf g]
    exact big_any a (a / 4503599627370496 % 2048) ca 2 w hA C1 k4 k3 (by decide) (by decide) (by omega) (by unfold rung at g; omega) (by omega)
  have e := roundW_ref .up a hA hf
  rw [hs] at e
  rw [e, word_def]
  obtain ⟨r, hr⟩ : ∃ r, rung a = r := ⟨_, rfl⟩
  have hw := word_self a hA
  rw [hs, word_def, hr] at hw
  simp only [if_true] at hw
  rw [hr] at g ⊢
  have h63 : (a : Int) / 9223372036854775808 = 1 := by omega
  have hsz : (a : Int) - 9223372036854775808 = (r : Int) := by omega
  have hrl : r < 9223372036854775808 := by omega
  simp only [if_true]
  rcases Nat.lt_or_ge r 4607182418800017408 with g2 | g2
  · have er : refR .up true r = 0 := by
      unfold refR; rw [if_neg (show ¬ 4841369599423283200 ≤ r by omega), if_pos g2]; simp [upOf]
    rw [er]
    exact low1_2 a r (a / 4503599627370496 % 2048) ca w hA hrl C1 k4 k3 h63 hsz (by omega) (by omega)
  · obtain ⟨q, low, rest, down, half, quo, eq, -, -, -, -, -, hq1, hq2, hl, hl0, hl52, hh0, hm, hd, hu, hh, hw2, hv, hdr, -, href⟩ := parts r g2 g
    have hq : (a : Int) / 4503599627370496 % 2048 = (q : Int) := by rw [eq]; omega
    have hx1 := or_sign down (by omega)
    have hx2 := or_sign (down + low) (by omega)
    rw [href]
    have ec : (upOf .up true (decide (half < rest) || (decide (rest = half) && (decide (q = 1023) || decide (quo % 2 = 1)))) && decide (0 < rest)) = false := by simp [upOf]
    rw [ec]
    exact mid1_2 a r q low rest down ca (9223372036854775808 + down) w hA hrl C1 k4 k3 h63 hsz hq hq1 hq2 hl hl0 hm hd hx1
theorem rr1_3 (a : Nat) (hA : a < 18446744073709551616) (hf : rung a < infR) (hs : sgn a = true) (w : World) :
    Calls Try.prog 27 #[.int .u64 (a : Int), .int .i64 3] w fun e w' => e = .returned (.int .u64 ((roundW .even a : Nat) : Int)) ∧ w' = w := by
  have C1 : Hid (∀ w, Calls Try.prog 10 #[.int .u64 (a : Int)] w fun e w' => e = .returned (.int .i64 (classN a : Nat)) ∧ w' = w) := rclass_any a hA
  have k4 := class_beq a (by unfold isNone; omega)
  have k3 := class_beq3 a hf
  generalize classN a = ca at *
  rcases Nat.lt_or_ge (rung a) 4841369599423283200 with g | g
  rotate_left
  · rw [roundW_big .even a hA hf g]
    exact big_any a (a / 4503599627370496 % 2048) ca 3 w hA C1 k4 k3 (by decide) (by decide) (by omega) (by unfold rung at g; omega) (by omega)
  have e := roundW_ref .even a hA hf
  rw [hs] at e
  rw [e, word_def]
  obtain ⟨r, hr⟩ : ∃ r, rung a = r := ⟨_, rfl⟩
  have hw := word_self a hA
  rw [hs, word_def, hr] at hw
  simp only [if_true] at hw
  rw [hr] at g ⊢
  have h63 : (a : Int) / 9223372036854775808 = 1 := by omega
  have hsz : (a : Int) - 9223372036854775808 = (r : Int) := by omega
  have hrl : r < 9223372036854775808 := by omega
  simp only [if_true]
  rcases Nat.lt_or_ge r 4607182418800017408 with g2 | g2
  · by_cases c : 4602678819172646912 < r
    · have er : refR .even true r = 4607182418800017408 := by
        unfold refR; rw [if_neg (show ¬ 4841369599423283200 ≤ r by omega), if_pos g2]; simp [upOf, c]; omega
      rw [er]
      exact low1_3a a r (a / 4503599627370496 % 2048) ca w hA hrl C1 k4 k3 h63 hsz (by omega) (by omega) (by omega) (by omega)
    · have er : refR .even true r = 0 := by
        unfold refR; rw [if_neg (show ¬ 4841369599423283200 ≤ r by omega), if_pos g2]; simp [upOf, c]
      rw [er]
      exact low1_3b a r (a / 4503599627370496 % 2048) ca w hA hrl C1 k4 k3 h63 hsz (by omega) (by omega) (by rw [decide_eq_false_iff_not]; omega)
  · obtain ⟨q, low, rest, down, half, quo, eq, -, -, -, -, -, hq1, hq2, hl, hl0, hl52, hh0, hm, hd, hu, hh, hw2, hv, hdr, -, href⟩ := parts r g2 g
    have hq : (a : Int) / 4503599627370496 % 2048 = (q : Int) := by rw [eq]; omega
    have hx1 := or_sign down (by omega)
    have hx2 := or_sign (down + low) (by omega)
    rw [href]
    by_cases c1 : half < rest
    · have ec : (upOf .even true (decide (half < rest) || (decide (rest = half) && (decide (q = 1023) || decide (quo % 2 = 1)))) && decide (0 < rest)) = true := by simp [upOf, c1]; omega
      rw [ec]
      exact mid1_3a a r q low rest down (down + low) (9223372036854775808 + (down + low)) half ca (9223372036854775808 + down) w hA hrl C1 k4 k3 h63 hsz hq hq1 hq2 hl hl0 hm hd hx1 hu hx2 hh hw2 (by omega) (by omega)
    by_cases c2 : rest = half
    · by_cases c3 : q = 1023
      · have ec : (upOf .even true (decide (half < rest) || (decide (rest = half) && (decide (q = 1023) || decide (quo % 2 = 1)))) && decide (0 < rest)) = true := by simp [upOf, c2, c3]; omega
        rw [ec]
        exact mid1_3c a r q low rest down (down + low) (9223372036854775808 + (down + low)) half ca (9223372036854775808 + down) w hA hrl C1 k4 k3 h63 hsz hq hq1 hq2 hl hl0 hm hd hx1 hu hx2 hh hw2 (by rw [decide_eq_false_iff_not]; omega) (by simp; omega) (by omega) (by simp; omega)
      · by_cases c4 : quo % 2 = 1
        · have ec : (upOf .even true (decide (half < rest) || (decide (rest = half) && (decide (q = 1023) || decide (quo % 2 = 1)))) && decide (0 < rest)) = true := by simp [upOf, c2, c4]; omega
          rw [ec]
          exact mid1_3d a r q low rest down (down + low) (9223372036854775808 + (down + low)) half quo ca (9223372036854775808 + down) w hA hrl C1 k4 k3 h63 hsz hq hq1 hq2 hl hl0 hm hd hx1 hu hx2 hh hw2 (by rw [decide_eq_false_iff_not]; omega) (by simp; omega) (by omega) (by simp; omega) hv (by simp; omega)
        · have ec : (upOf .even true (decide (half < rest) || (decide (rest = half) && (decide (q = 1023) || decide (quo % 2 = 1)))) && decide (0 < rest)) = false := by simp [upOf, c1, c3, c4]
          rw [ec]
          exact mid1_3e a r q low rest down half quo ca (9223372036854775808 + down) w hA hrl C1 k4 k3 h63 hsz hq hq1 hq2 hl hl0 hm hd hx1 hh hw2 (by rw [decide_eq_false_iff_not]; omega) (by simp; omega) (by omega) (by simp; omega) hv (by simp; omega)
    · have ec : (upOf .even true (decide (half < rest) || (decide (rest = half) && (decide (q = 1023) || decide (quo % 2 = 1)))) && decide (0 < rest)) = false := by simp [upOf, c1, c2]
      rw [ec]
      exact mid1_3b a r q low rest down half ca (9223372036854775808 + down) w hA hrl C1 k4 k3 h63 hsz hq hq1 hq2 hl hl0 hm hd hx1 hh hw2 (by omega) (by rw [decide_eq_false_iff_not]; omega) (by simp; omega)
theorem rround_any (a : Nat) (way : Int) (hA : a < 18446744073709551616) (w : World) :
    Calls Try.prog 27 #[.int .u64 (a : Int), .int .i64 way] w fun e w' => e = .returned (.int .u64 ((roundN a way : Nat) : Int)) ∧ w' = w := by
  by_cases h1 : isNone a
  · have e : roundN a way = 9221120237041090560 := by unfold roundN; rw [if_pos h1]; rfl
    rw [e]
    exact rnone_any a way w (rclass_none a hA h1)
  rcases not_none_cases a h1 with hf | hf
  rotate_left
  · have e : roundN a way = a := by unfold roundN; rw [if_neg h1, if_neg (by unfold infR at hf; omega)]
    have kc : classN a = 3 := by unfold classN; unfold infR at hf; (repeat' split) <;> omega
    rw [e]
    exact rinf_any a way w (by have := rclass_any a hA; rw [kc] at this; exact this)
  have e : roundN a way = wholeN a way := by unfold roundN; rw [if_neg h1, if_pos hf]
  rw [e]
  have C1 : Hid (∀ w, Calls Try.prog 10 #[.int .u64 (a : Int)] w fun e w' => e = .returned (.int .i64 (classN a : Nat)) ∧ w' = w) := rclass_any a hA
  have k4 := class_beq a h1
  have k3 := class_beq3 a hf
  by_cases w0 : way < 0
  · have e2 : wholeN a way = a := by
      unfold wholeN wayOf; rw [if_neg (by omega), if_neg (by omega), if_neg (by omega), if_neg (by omega)]
    rw [e2]; exact under_any a _ way w hA C1 k4 k3 (by simp [w0])
  by_cases w3 : 3 < way
  · have e2 : wholeN a way = a := by
      unfold wholeN wayOf; rw [if_neg (by omega), if_neg (by omega), if_neg (by omega), if_neg (by omega)]
    rw [e2]; exact over_any a _ way w hA C1 k4 k3 (by simp [w0]) (by simp [w3])
  clear C1 k4 k3
  have hw : way = 0 ∨ way = 1 ∨ way = 2 ∨ way = 3 := by omega
  cases hs : sgn a
  · rcases hw with rfl | rfl | rfl | rfl
    · exact rr0_0 a hA hf hs w
    · exact rr0_1 a hA hf hs w
    · exact rr0_2 a hA hf hs w
    · exact rr0_3 a hA hf hs w
  · rcases hw with rfl | rfl | rfl | rfl
    · exact rr1_0 a hA hf hs w
    · exact rr1_1 a hA hf hs w
    · exact rr1_2 a hA hf hs w
    · exact rr1_3 a hA hf hs w
end Go.Proofs.Ytlchjfdnkplmmaa
