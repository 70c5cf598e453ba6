/- What is proved here: the lesser and the greater one of two, by the document. -/
import Derived.Test.YtlchjfdnkplmmaaPicks
namespace Go.Proofs.Ytlchjfdnkplmmaa
open Go.RowKit

theorem rclass_none (a : Nat) (hA : a < 18446744073709551616) (h : isNone a) : ∀ w, Calls Try.prog 10 #[.int .u64 (a : Int)] w fun e w' => e = .returned (.int .i64 4) ∧ w' = w := by
  have := rclass_any a hA; rw [(none_class a).1 h] at this; exact this
theorem class_beq (a : Nat) (h : ¬ isNone a) : ((classN a : Int) == 4) = false := by
  have : classN a ≠ 4 := fun e => h ((none_class a).2 e)
  simp; omega
theorem pick_true (a b : Nat) (hA : a < 18446744073709551616) (hB : b < 18446744073709551616) (w : World) :
    Calls Try.prog 45 #[.int .u64 (a : Int), .int .u64 (b : Int), .bool true] w fun e w' => e = .returned (.int .u64 ((pickN true a b : Nat) : Int)) ∧ w' = w := by
  rcases ways a b hA hB true with ⟨hn, -, hp⟩ | ⟨ha, hb, ho, hp⟩ | ⟨ha, hb, ho, hp⟩ | ⟨ha, hb, ho, hp⟩
  · by_cases ha : isNone a
    · by_cases hb : isNone b
      · rw [hp, if_pos ha, if_pos hb]
        have C1 : Hid (∀ w, Calls Try.prog 10 #[.int .u64 (a : Int)] w fun e w' => e = .returned (.int .i64 4) ∧ w' = w) := rclass_none a hA ha
        have C2 : Hid (∀ w, Calls Try.prog 10 #[.int .u64 (b : Int)] w fun e w' => e = .returned (.int .i64 4) ∧ w' = w) := rclass_none b hB hb
        clear ha hb hp hn hA hB
        go_enter Try.func45, Try.ntmps45
        go_wp2_with fail
        refine (C1.out _).mono ?_
        rintro e w1 ⟨rfl, rfl⟩
        go_wp2_with fail
        refine (C2.out _).mono ?_
        rintro e w1 ⟨rfl, rfl⟩
        go_wp2
        go_ret
        exact ⟨rfl, rfl⟩
      · rw [hp, if_pos ha, if_neg hb]
        have C1 : Hid (∀ w, Calls Try.prog 10 #[.int .u64 (a : Int)] w fun e w' => e = .returned (.int .i64 4) ∧ w' = w) := rclass_none a hA ha
        have C2 : Hid (∀ w, Calls Try.prog 10 #[.int .u64 (b : Int)] w fun e w' => e = .returned (.int .i64 (classN b : Nat)) ∧ w' = w) := rclass_any b hB
        have k2 := class_beq b hb
        clear ha hb hp hn hA hB
        generalize classN b = cb at *
        go_enter Try.func45, Try.ntmps45
        go_wp2_with fail
        refine (C1.out _).mono ?_
        rintro e w1 ⟨rfl, rfl⟩
        go_wp2_with fail
        refine (C2.out _).mono ?_
        rintro e w1 ⟨rfl, rfl⟩
        go_wp2
        go_ret
        exact ⟨rfl, rfl⟩
    · have hb := hn.resolve_left ha
      rw [hp, if_neg ha]
      have C1 : Hid (∀ w, Calls Try.prog 10 #[.int .u64 (a : Int)] w fun e w' => e = .returned (.int .i64 (classN a : Nat)) ∧ w' = w) := rclass_any a hA
      have k1 := class_beq a ha
      have C2 : Hid (∀ w, Calls Try.prog 10 #[.int .u64 (b : Int)] w fun e w' => e = .returned (.int .i64 4) ∧ w' = w) := rclass_none b hB hb
      clear ha hb hp hn hA hB
      generalize classN a = ca at *
      go_enter Try.func45, Try.ntmps45
      go_wp2_with fail
      refine (C1.out _).mono ?_
      rintro e w1 ⟨rfl, rfl⟩
      go_wp2_with fail
      refine (C2.out _).mono ?_
      rintro e w1 ⟨rfl, rfl⟩
      go_wp2
      go_ret
      exact ⟨rfl, rfl⟩
  · rw [hp]
    have C1 : Hid (∀ w, Calls Try.prog 10 #[.int .u64 (a : Int)] w fun e w' => e = .returned (.int .i64 (classN a : Nat)) ∧ w' = w) := rclass_any a hA
    have k1 := class_beq a ha
    have C2 : Hid (∀ w, Calls Try.prog 10 #[.int .u64 (b : Int)] w fun e w' => e = .returned (.int .i64 (classN b : Nat)) ∧ w' = w) := rclass_any b hB
    have k2 := class_beq b hb
    have O : Hid (∀ w, Calls Try.prog 12 #[.int .u64 (a : Int), .int .u64 (b : Int)] w fun e w' => e = .returned (.int .i64 (-1)) ∧ w' = w) := by have := rorder_any a b hA hB; rw [ho] at this; exact this
    clear ha hb hp ho hA hB
    generalize classN a = ca at *
    generalize classN b = cb at *
    go_enter Try.func45, Try.ntmps45
    go_wp2_with fail
    refine (C1.out _).mono ?_
    rintro e w1 ⟨rfl, rfl⟩
    go_wp2_with fail
    refine (C2.out _).mono ?_
    rintro e w1 ⟨rfl, rfl⟩
    go_wp2_with fail
    refine (O.out _).mono ?_
    rintro e w1 ⟨rfl, rfl⟩
    go_wp2
    go_ret
    exact ⟨rfl, rfl⟩
  · rw [hp]
    have C1 : Hid (∀ w, Calls Try.prog 10 #[.int .u64 (a : Int)] w fun e w' => e = .returned (.int .i64 (classN a : Nat)) ∧ w' = w) := rclass_any a hA
    have k1 := class_beq a ha
    have C2 : Hid (∀ w, Calls Try.prog 10 #[.int .u64 (b : Int)] w fun e w' => e = .returned (.int .i64 (classN b : Nat)) ∧ w' = w) := rclass_any b hB
    have k2 := class_beq b hb
    have O : Hid (∀ w, Calls Try.prog 12 #[.int .u64 (a : Int), .int .u64 (b : Int)] w fun e w' => e = .returned (.int .i64 1) ∧ w' = w) := by have := rorder_any a b hA hB; rw [ho] at this; exact this
    clear ha hb hp ho hA hB
    generalize classN a = ca at *
    generalize classN b = cb at *
    go_enter Try.func45, Try.ntmps45
    go_wp2_with fail
    refine (C1.out _).mono ?_
    rintro e w1 ⟨rfl, rfl⟩
    go_wp2_with fail
    refine (C2.out _).mono ?_
    rintro e w1 ⟨rfl, rfl⟩
    go_wp2_with fail
    refine (O.out _).mono ?_
    rintro e w1 ⟨rfl, rfl⟩
    go_wp2
    go_ret
    exact ⟨rfl, rfl⟩
  · rcases hp with ⟨rfl, hp⟩ | ⟨rfl, rfl, hp⟩ | ⟨rfl, rfl, hp⟩
    · rw [hp]
      have C1 : Hid (∀ w, Calls Try.prog 10 #[.int .u64 (a : Int)] w fun e w' => e = .returned (.int .i64 (classN a : Nat)) ∧ w' = w) := rclass_any a hA
      have k1 := class_beq a ha
      have O : Hid (∀ w, Calls Try.prog 12 #[.int .u64 (a : Int), .int .u64 (a : Int)] w fun e w' => e = .returned (.int .i64 0) ∧ w' = w) := by have := rorder_any a a hA hB; rw [ho] at this; exact this
      clear ha hb hp ho hA hB
      generalize classN a = ca at *
      go_enter Try.func45, Try.ntmps45
      go_wp2_with fail
      refine (C1.out _).mono ?_
      rintro e w1 ⟨rfl, rfl⟩
      go_wp2_with fail
      refine (C1.out _).mono ?_
      rintro e w1 ⟨rfl, rfl⟩
      go_wp2_with fail
      refine (O.out _).mono ?_
      rintro e w1 ⟨rfl, rfl⟩
      go_wp2
      go_ret
      exact ⟨rfl, rfl⟩
    · rw [hp]
      have C1 : Hid (∀ w, Calls Try.prog 10 #[.int .u64 0] w fun e w' => e = .returned (.int .i64 0) ∧ w' = w) := rclass_any 0 (by decide)
      have C2 : Hid (∀ w, Calls Try.prog 10 #[.int .u64 9223372036854775808] w fun e w' => e = .returned (.int .i64 0) ∧ w' = w) := rclass_any 9223372036854775808 (by decide)
      have O : Hid (∀ w, Calls Try.prog 12 #[.int .u64 0, .int .u64 9223372036854775808] w fun e w' => e = .returned (.int .i64 0) ∧ w' = w) := by have := rorder_any 0 9223372036854775808 hA hB; rw [ho] at this; exact this
      clear ha hb hp ho hA hB
      go_enter Try.func45, Try.ntmps45
      go_wp2_with fail
      refine (C1.out _).mono ?_
      rintro e w1 ⟨rfl, rfl⟩
      go_wp2_with fail
      refine (C2.out _).mono ?_
      rintro e w1 ⟨rfl, rfl⟩
      go_wp2_with fail
      refine (O.out _).mono ?_
      rintro e w1 ⟨rfl, rfl⟩
      go_wp2
      go_ret
      exact ⟨rfl, rfl⟩
    · rw [hp]
      have C1 : Hid (∀ w, Calls Try.prog 10 #[.int .u64 9223372036854775808] w fun e w' => e = .returned (.int .i64 0) ∧ w' = w) := rclass_any 9223372036854775808 (by decide)
      have C2 : Hid (∀ w, Calls Try.prog 10 #[.int .u64 0] w fun e w' => e = .returned (.int .i64 0) ∧ w' = w) := rclass_any 0 (by decide)
      have O : Hid (∀ w, Calls Try.prog 12 #[.int .u64 9223372036854775808, .int .u64 0] w fun e w' => e = .returned (.int .i64 0) ∧ w' = w) := by have := rorder_any 9223372036854775808 0 hA hB; rw [ho] at this; exact this
      clear ha hb hp ho hA hB
      go_enter Try.func45, Try.ntmps45
      go_wp2_with fail
      refine (C1.out _).mono ?_
      rintro e w1 ⟨rfl, rfl⟩
      go_wp2_with fail
      refine (C2.out _).mono ?_
      rintro e w1 ⟨rfl, rfl⟩
      go_wp2_with fail
      refine (O.out _).mono ?_
      rintro e w1 ⟨rfl, rfl⟩
      go_wp2
      go_ret
      exact ⟨rfl, rfl⟩
theorem pick_false (a b : Nat) (hA : a < 18446744073709551616) (hB : b < 18446744073709551616) (w : World) :
    Calls Try.prog 45 #[.int .u64 (a : Int), .int .u64 (b : Int), .bool false] w fun e w' => e = .returned (.int .u64 ((pickN false a b : Nat) : Int)) ∧ w' = w := by
  rcases ways a b hA hB false with ⟨hn, -, hp⟩ | ⟨ha, hb, ho, hp⟩ | ⟨ha, hb, ho, hp⟩ | ⟨ha, hb, ho, hp⟩
  · by_cases ha : isNone a
    · by_cases hb : isNone b
      · rw [hp, if_pos ha, if_pos hb]
        have C1 : Hid (∀ w, Calls Try.prog 10 #[.int .u64 (a : Int)] w fun e w' => e = .returned (.int .i64 4) ∧ w' = w) := rclass_none a hA ha
        have C2 : Hid (∀ w, Calls Try.prog 10 #[.int .u64 (b : Int)] w fun e w' => e = .returned (.int .i64 4) ∧ w' = w) := rclass_none b hB hb
        clear ha hb hp hn hA hB
        go_enter Try.func45, Try.ntmps45
        go_wp2_with fail
        refine (C1.out _).mono ?_
        rintro e w1 ⟨rfl, rfl⟩
        go_wp2_with fail
        refine (C2.out _).mono ?_
        rintro e w1 ⟨rfl, rfl⟩
        go_wp2
        go_ret
        exact ⟨rfl, rfl⟩
      · rw [hp, if_pos ha, if_neg hb]
        have C1 : Hid (∀ w, Calls Try.prog 10 #[.int .u64 (a : Int)] w fun e w' => e = .returned (.int .i64 4) ∧ w' = w) := rclass_none a hA ha
        have C2 : Hid (∀ w, Calls Try.prog 10 #[.int .u64 (b : Int)] w fun e w' => e = .returned (.int .i64 (classN b : Nat)) ∧ w' = w) := rclass_any b hB
        have k2 := class_beq b hb
        clear ha hb hp hn hA hB
        generalize classN b = cb at *
        go_enter Try.func45, Try.ntmps45
        go_wp2_with fail
        refine (C1.out _).mono ?_
        rintro e w1 ⟨rfl, rfl⟩
        go_wp2_with fail
        refine (C2.out _).mono ?_
        rintro e w1 ⟨rfl, rfl⟩
        go_wp2
        go_ret
        exact ⟨rfl, rfl⟩
    · have hb := hn.resolve_left ha
      rw [hp, if_neg ha]
      have C1 : Hid (∀ w, Calls Try.prog 10 #[.int .u64 (a : Int)] w fun e w' => e = .returned (.int .i64 (classN a : Nat)) ∧ w' = w) := rclass_any a hA
      have k1 := class_beq a ha
      have C2 : Hid (∀ w, Calls Try.prog 10 #[.int .u64 (b : Int)] w fun e w' => e = .returned (.int .i64 4) ∧ w' = w) := rclass_none b hB hb
      clear ha hb hp hn hA hB
      generalize classN a = ca at *
      go_enter Try.func45, Try.ntmps45
      go_wp2_with fail
      refine (C1.out _).mono ?_
      rintro e w1 ⟨rfl, rfl⟩
      go_wp2_with fail
      refine (C2.out _).mono ?_
      rintro e w1 ⟨rfl, rfl⟩
      go_wp2
      go_ret
      exact ⟨rfl, rfl⟩
  · rw [hp]
    have C1 : Hid (∀ w, Calls Try.prog 10 #[.int .u64 (a : Int)] w fun e w' => e = .returned (.int .i64 (classN a : Nat)) ∧ w' = w) := rclass_any a hA
    have k1 := class_beq a ha
    have C2 : Hid (∀ w, Calls Try.prog 10 #[.int .u64 (b : Int)] w fun e w' => e = .returned (.int .i64 (classN b : Nat)) ∧ w' = w) := rclass_any b hB
    have k2 := class_beq b hb
    have O : Hid (∀ w, Calls Try.prog 12 #[.int .u64 (a : Int), .int .u64 (b : Int)] w fun e w' => e = .returned (.int .i64 (-1)) ∧ w' = w) := by have := rorder_any a b hA hB; rw [ho] at this; exact this
    clear ha hb hp ho hA hB
    generalize classN a = ca at *
    generalize classN b = cb at *
    go_enter Try.func45, Try.ntmps45
    go_wp2_with fail
    refine (C1.out _).mono ?_
    rintro e w1 ⟨rfl, rfl⟩
    go_wp2_with fail
    refine (C2.out _).mono ?_
    rintro e w1 ⟨rfl, rfl⟩
    go_wp2_with fail
    refine (O.out _).mono ?_
    rintro e w1 ⟨rfl, rfl⟩
    go_wp2
    go_ret
    exact ⟨rfl, rfl⟩
  · rw [hp]
    have C1 : Hid (∀ w, Calls Try.prog 10 #[.int .u64 (a : Int)] w fun e w' => e = .returned (.int .i64 (classN a : Nat)) ∧ w' = w) := rclass_any a hA
    have k1 := class_beq a ha
    have C2 : Hid (∀ w, Calls Try.prog 10 #[.int .u64 (b : Int)] w fun e w' => e = .returned (.int .i64 (classN b : Nat)) ∧ w' = w) := rclass_any b hB
    have k2 := class_beq b hb
    have O : Hid (∀ w, Calls Try.prog 12 #[.int .u64 (a : Int), .int .u64 (b : Int)] w fun e w' => e = .returned (.int .i64 1) ∧ w' = w) := by have := rorder_any a b hA hB; rw [ho] at this; exact this
    clear ha hb hp ho hA hB
    generalize classN a = ca at *
    generalize classN b = cb at *
    go_enter Try.func45, Try.ntmps45
    go_wp2_with fail
    refine (C1.out _).mono ?_
    rintro e w1 ⟨rfl, rfl⟩
    go_wp2_with fail
    refine (C2.out _).mono ?_
    rintro e w1 ⟨rfl, rfl⟩
    go_wp2_with fail
    refine (O.out _).mono ?_
    rintro e w1 ⟨rfl, rfl⟩
    go_wp2
    go_ret
    exact ⟨rfl, rfl⟩
  · rcases hp with ⟨rfl, hp⟩ | ⟨rfl, rfl, hp⟩ | ⟨rfl, rfl, hp⟩
    · rw [hp]
      have C1 : Hid (∀ w, Calls Try.prog 10 #[.int .u64 (a : Int)] w fun e w' => e = .returned (.int .i64 (classN a : Nat)) ∧ w' = w) := rclass_any a hA
      have k1 := class_beq a ha
      have O : Hid (∀ w, Calls Try.prog 12 #[.int .u64 (a : Int), .int .u64 (a : Int)] w fun e w' => e = .returned (.int .i64 0) ∧ w' = w) := by have := rorder_any a a hA hB; rw [ho] at this; exact this
      clear ha hb hp ho hA hB
      generalize classN a = ca at *
      go_enter Try.func45, Try.ntmps45
      go_wp2_with fail
      refine (C1.out _).mono ?_
      rintro e w1 ⟨rfl, rfl⟩
      go_wp2_with fail
      refine (C1.out _).mono ?_
      rintro e w1 ⟨rfl, rfl⟩
      go_wp2_with fail
      refine (O.out _).mono ?_
      rintro e w1 ⟨rfl, rfl⟩
      go_wp2
      go_ret
      exact ⟨rfl, rfl⟩
    · rw [hp]
      have C1 : Hid (∀ w, Calls Try.prog 10 #[.int .u64 0] w fun e w' => e = .returned (.int .i64 0) ∧ w' = w) := rclass_any 0 (by decide)
      have C2 : Hid (∀ w, Calls Try.prog 10 #[.int .u64 9223372036854775808] w fun e w' => e = .returned (.int .i64 0) ∧ w' = w) := rclass_any 9223372036854775808 (by decide)
      have O : Hid (∀ w, Calls Try.prog 12 #[.int .u64 0, .int .u64 9223372036854775808] w fun e w' => e = .returned (.int .i64 0) ∧ w' = w) := by have := rorder_any 0 9223372036854775808 hA hB; rw [ho] at this; exact this
      clear ha hb hp ho hA hB
      go_enter Try.func45, Try.ntmps45
      go_wp2_with fail
      refine (C1.out _).mono ?_
      rintro e w1 ⟨rfl, rfl⟩
      go_wp2_with fail
      refine (C2.out _).mono ?_
      rintro e w1 ⟨rfl, rfl⟩
      go_wp2_with fail
      refine (O.out _).mono ?_
      rintro e w1 ⟨rfl, rfl⟩
      go_wp2
      go_ret
      exact ⟨rfl, rfl⟩
    · rw [hp]
      have C1 : Hid (∀ w, Calls Try.prog 10 #[.int .u64 9223372036854775808] w fun e w' => e = .returned (.int .i64 0) ∧ w' = w) := rclass_any 9223372036854775808 (by decide)
      have C2 : Hid (∀ w, Calls Try.prog 10 #[.int .u64 0] w fun e w' => e = .returned (.int .i64 0) ∧ w' = w) := rclass_any 0 (by decide)
      have O : Hid (∀ w, Calls Try.prog 12 #[.int .u64 9223372036854775808, .int .u64 0] w fun e w' => e = .returned (.int .i64 0) ∧ w' = w) := by have := rorder_any 9223372036854775808 0 hA hB; rw [ho] at this; exact this
      clear ha hb hp ho hA hB
      go_enter Try.func45, Try.ntmps45
      go_wp2_with fail
      refine (C1.out _).mono ?_
      rintro e w1 ⟨rfl, rfl⟩
      go_wp2_with fail
      refine (C2.out _).mono ?_
      rintro e w1 ⟨rfl, rfl⟩
      go_wp2_with fail
      refine (O.out _).mono ?_
      rintro e w1 ⟨rfl, rfl⟩
      go_wp2
      go_ret
      exact ⟨rfl, rfl⟩
theorem rmin_any (a b : Nat) (hA : a < 18446744073709551616) (hB : b < 18446744073709551616) (w : World) :
    Calls Try.prog 23 #[.int .u64 (a : Int), .int .u64 (b : Int)] w fun e w' => e = .returned (.int .u64 ((pickN true a b : Nat) : Int)) ∧ w' = w := by
  have P : Hid (∀ w, Calls Try.prog 45 #[.int .u64 (a : Int), .int .u64 (b : Int), .bool true] w fun e w' => e = .returned (.int .u64 ((pickN true a b : Nat) : Int)) ∧ w' = w) := pick_true a b hA hB
  generalize pickN true a b = o at *
  clear hA hB
  go_enter Try.func23, Try.ntmps23
  go_wp2_with fail
  refine (P.out _).mono ?_
  rintro e w1 ⟨rfl, rfl⟩
  go_wp2
  go_ret
  exact ⟨rfl, rfl⟩
theorem rmax_any (a b : Nat) (hA : a < 18446744073709551616) (hB : b < 18446744073709551616) (w : World) :
    Calls Try.prog 25 #[.int .u64 (a : Int), .int .u64 (b : Int)] w fun e w' => e = .returned (.int .u64 ((pickN false a b : Nat) : Int)) ∧ w' = w := by
  have P : Hid (∀ w, Calls Try.prog 45 #[.int .u64 (a : Int), .int .u64 (b : Int), .bool false] w fun e w' => e = .returned (.int .u64 ((pickN false a b : Nat) : Int)) ∧ w' = w) := pick_false a b hA hB
  by_cases h : a = b
  · subst h
    by_cases ha : isNone a
    · have C1 : Hid (∀ w, Calls Try.prog 10 #[.int .u64 (a : Int)] w fun e w' => e = .returned (.int .i64 4) ∧ w' = w) := rclass_none a hA ha
      generalize pickN false a a = o at *
      clear hA hB ha
      go_enter Try.func25, Try.ntmps25
      go_wp2_with fail
      refine (C1.out _).mono ?_
      rintro e w1 ⟨rfl, rfl⟩
      go_wp2_with fail
      refine (P.out _).mono ?_
      rintro e w1 ⟨rfl, rfl⟩
      go_wp2
      go_ret
      exact ⟨rfl, rfl⟩
    · have C1 : Hid (∀ w, Calls Try.prog 10 #[.int .u64 (a : Int)] w fun e w' => e = .returned (.int .i64 (classN a : Nat)) ∧ w' = w) := rclass_any a hA
      have k1 := class_beq a ha
      have k2 : ((classN a : Int) != 4) = true := by rw [bne, k1]; rfl
      have e : pickN false a a = a := by unfold pickN; simp [ha]
      rw [e]
      generalize classN a = ca at *
      clear hA hB ha P e
      go_enter Try.func25, Try.ntmps25
      go_wp2_with fail
      refine (C1.out _).mono ?_
      rintro e w1 ⟨rfl, rfl⟩
      go_wp2
      go_ret
      exact ⟨rfl, rfl⟩
  · have h' : (((a : Nat) : Int) == ((b : Nat) : Int)) = false := by simp; omega
    generalize pickN false a b = o at *
    clear hA hB h
    go_enter Try.func25, Try.ntmps25
    go_wp2_with fail
    refine (P.out _).mono ?_
    rintro e w1 ⟨rfl, rfl⟩
    go_wp2
    go_ret
    exact ⟨rfl, rfl⟩
end Go.Proofs.Ytlchjfdnkplmmaa
