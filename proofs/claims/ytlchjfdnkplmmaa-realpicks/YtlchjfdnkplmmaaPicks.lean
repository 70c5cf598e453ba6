/- What is proved here: the lesser and the greater one of two, by the program and by the document. -/
import Derived.Test.YtlchjfdnkplmmaaRound
import Derived.Test.YtlchjfdnkplmmaaRorder
import Derived.Laws.Bits64b
namespace Go.Proofs.Ytlchjfdnkplmmaa
open Go.RowKit

def pickN (least : Bool) (a b : Nat) : Nat :=
  if isNone a then (if isNone b then quietN else b)
  else if isNone b then a
  else if rank a < rank b then (if least then a else b)
  else if rank b < rank a then (if least then b else a)
  else if a = b then a
  else if least then 9223372036854775808 else 0
theorem tie (a b : Nat) (hA : a < 18446744073709551616) (hB : b < 18446744073709551616) (h : rank a = rank b) : a = b ∨ (a = 0 ∧ b = 9223372036854775808) ∨ (a = 9223372036854775808 ∧ b = 0) := by
  have h1 := word_self a hA; have h2 := word_self b hB
  rw [word_def] at h1 h2
  unfold rank at h
  cases ha : sgn a <;> cases hb : sgn b <;> rw [ha, hb] at h <;> rw [ha] at h1 <;> rw [hb] at h2 <;> simp only [if_true, Bool.false_eq_true, if_false] at * <;> omega
theorem other_any (a b : Nat) (hA : a < 18446744073709551616) (hB : b < 18446744073709551616) (w : World) :
    Calls Try.prog 44 #[.int .u64 (a : Int), .int .u64 (b : Int)] w fun e w' => e = .returned (.int .u64 ((if isNone a then (if isNone b then quietN else b) else a : Nat) : Int)) ∧ w' = w := by
  have n1 := none_class a
  have Q : Hid (∀ w, Calls Try.prog 49 #[.int .u64 (b : Int)] w fun e w' => e = .returned (.int .u64 ((if isNone b then quietN else b : Nat) : Int)) ∧ w' = w) := quieted_any b hB
  generalize (if isNone b then quietN else b : Nat) = u at *
  by_cases h : isNone a
  · rw [if_pos h]
    have hc := n1.1 h
    have C1 : Hid (∀ w, Calls Try.prog 9 #[.int .u64 (a : Int)] w fun e w' => e = .returned (.int .i64 4) ∧ w' = w) := by
      have := class_any a hA; rw [hc] at this; exact this
    clear h hc n1 hA
    go_enter Try.func44, Try.ntmps44
    go_wp2_with fail
    refine (C1.out _).mono ?_
    rintro e w1 ⟨rfl, rfl⟩
    go_wp2_with fail
    refine (Q.out _).mono ?_
    rintro e w1 ⟨rfl, rfl⟩
    go_wp2
    go_ret
    exact ⟨rfl, rfl⟩
  · rw [if_neg h]
    have hc : ((classN a : Int) == 4) = false := by
      have : classN a ≠ 4 := fun e => h (n1.2 e)
      simp; omega
    have C1 : Hid (∀ w, Calls Try.prog 9 #[.int .u64 (a : Int)] w fun e w' => e = .returned (.int .i64 (classN a : Nat)) ∧ w' = w) := class_any a hA
    clear h n1 hA
    generalize classN a = ca at *
    go_enter Try.func44, Try.ntmps44
    go_wp2_with fail
    refine (C1.out _).mono ?_
    rintro e w1 ⟨rfl, rfl⟩
    go_wp2
    go_ret
    exact ⟨rfl, rfl⟩
/-- The five ways of two. -/
theorem ways (a b : Nat) (hA : a < 18446744073709551616) (hB : b < 18446744073709551616) (least : Bool) :
    ((isNone a ∨ isNone b) ∧ orderN a b = 2 ∧ pickN least a b = if isNone a then (if isNone b then quietN else b) else a) ∨
    (¬ isNone a ∧ ¬ isNone b ∧ orderN a b = -1 ∧ pickN least a b = if least then a else b) ∨
    (¬ isNone a ∧ ¬ isNone b ∧ orderN a b = 1 ∧ pickN least a b = if least then b else a) ∨
    (¬ isNone a ∧ ¬ isNone b ∧ orderN a b = 0 ∧ ((a = b ∧ pickN least a b = a) ∨ (a = 0 ∧ b = 9223372036854775808 ∧ pickN least a b = if least then 9223372036854775808 else 0) ∨ (a = 9223372036854775808 ∧ b = 0 ∧ pickN least a b = if least then 9223372036854775808 else 0))) := by
  by_cases ha : isNone a
  · left; refine ⟨Or.inl ha, ?_, ?_⟩
    · unfold orderN; rw [if_pos (Or.inl ha)]
    · unfold pickN; rw [if_pos ha, if_pos ha]
  by_cases hb : isNone b
  · left; refine ⟨Or.inr hb, ?_, ?_⟩
    · unfold orderN; rw [if_pos (Or.inr hb)]
    · unfold pickN; rw [if_neg ha, if_pos hb, if_neg ha]
  have ho : orderN a b = orderF a b := by unfold orderN; rw [if_neg (fun h => h.elim ha hb)]
  right
  by_cases h1 : rank a < rank b
  · left; refine ⟨ha, hb, ?_, ?_⟩
    · rw [ho]; unfold orderF; rw [if_pos h1]
    · unfold pickN; rw [if_neg ha, if_neg hb, if_pos h1]
  right
  by_cases h2 : rank b < rank a
  · left; refine ⟨ha, hb, ?_, ?_⟩
    · rw [ho]; unfold orderF; rw [if_neg h1, if_pos h2]
    · unfold pickN; rw [if_neg ha, if_neg hb, if_neg h1, if_pos h2]
  right
  refine ⟨ha, hb, ?_, ?_⟩
  · rw [ho]; unfold orderF; rw [if_neg h1, if_neg h2]
  · have e : pickN least a b = if a = b then a else if least then 9223372036854775808 else 0 := by
      unfold pickN; rw [if_neg ha, if_neg hb, if_neg h1, if_neg h2]
    rcases tie a b hA hB (by omega) with g | ⟨g1, g2⟩ | ⟨g1, g2⟩
    · left; exact ⟨g, by rw [e, if_pos g]⟩
    · right; left; exact ⟨g1, g2, by rw [e, if_neg (by omega)]⟩
    · right; right; exact ⟨g1, g2, by rw [e, if_neg (by omega)]⟩
theorem min_any (a b : Nat) (hA : a < 18446744073709551616) (hB : b < 18446744073709551616) (w : World) :
    Calls Try.prog 22 #[.int .u64 (a : Int), .int .u64 (b : Int)] w fun e w' => e = .returned (.int .u64 ((pickN true a b : Nat) : Int)) ∧ Below w.heap.size w w' := by
  have O := order_any a b hA hB
  rcases ways a b hA hB true with ⟨-, ho, hp⟩ | ⟨-, -, ho, hp⟩ | ⟨-, -, ho, hp⟩ | ⟨-, -, ho, hp⟩
  · rw [ho] at O
    have O' : Hid (∀ w, Calls Try.prog 11 #[.int .u64 (a : Int), .int .u64 (b : Int)] w fun e w' => e = .returned (.int .i64 2) ∧ Below w.heap.size w w') := O
    have R : Hid (∀ w, Calls Try.prog 44 #[.int .u64 (a : Int), .int .u64 (b : Int)] w fun e w' => e = .returned (.int .u64 ((pickN true a b : Nat) : Int)) ∧ w' = w) := by rw [hp]; exact other_any a b hA hB
    clear O ho hp hA hB
    generalize pickN true a b = o at *
    go_enter Try.func22, Try.ntmps22
    go_wp2_with fail
    refine (O'.out _).mono ?_
    rintro e w1 ⟨rfl, hb⟩
    go_wp2_with fail
    refine (R.out _).mono ?_
    rintro e w2 ⟨rfl, rfl⟩
    go_wp2
    go_ret
    exact ⟨rfl, hb⟩
  · rw [ho] at O
    have O' : Hid (∀ w, Calls Try.prog 11 #[.int .u64 (a : Int), .int .u64 (b : Int)] w fun e w' => e = .returned (.int .i64 (-1)) ∧ Below w.heap.size w w') := O
    rw [hp]
    clear O ho hp hA hB
    go_enter Try.func22, Try.ntmps22
    go_wp2_with fail
    refine (O'.out _).mono ?_
    rintro e w1 ⟨rfl, hb⟩
    go_wp2
    go_ret
    exact ⟨rfl, hb⟩
  · rw [ho] at O
    have O' : Hid (∀ w, Calls Try.prog 11 #[.int .u64 (a : Int), .int .u64 (b : Int)] w fun e w' => e = .returned (.int .i64 1) ∧ Below w.heap.size w w') := O
    rw [hp]
    clear O ho hp hA hB
    go_enter Try.func22, Try.ntmps22
    go_wp2_with fail
    refine (O'.out _).mono ?_
    rintro e w1 ⟨rfl, hb⟩
    go_wp2
    go_ret
    exact ⟨rfl, hb⟩
  · rw [ho] at O
    have O' : Hid (∀ w, Calls Try.prog 11 #[.int .u64 (a : Int), .int .u64 (b : Int)] w fun e w' => e = .returned (.int .i64 0) ∧ Below w.heap.size w w') := O
    have hx : bits .or .u64 (a : Int) (b : Int) = ((pickN true a b : Nat) : Int) := by
      rw [bits_or_u64_nat a b hA hB]
      rcases hp with ⟨rfl, h⟩ | ⟨rfl, rfl, h⟩ | ⟨rfl, rfl, h⟩
      · rw [h, Nat.or_self]
      · rw [h]; decide
      · rw [h]; decide
    clear O ho hp hA hB
    generalize pickN true a b = o at *
    go_enter Try.func22, Try.ntmps22
    go_wp2_with fail
    refine (O'.out _).mono ?_
    rintro e w1 ⟨rfl, hb⟩
    go_wp2
    go_ret
    exact ⟨rfl, hb⟩
theorem max_any (a b : Nat) (hA : a < 18446744073709551616) (hB : b < 18446744073709551616) (w : World) :
    Calls Try.prog 24 #[.int .u64 (a : Int), .int .u64 (b : Int)] w fun e w' => e = .returned (.int .u64 ((pickN false a b : Nat) : Int)) ∧ Below w.heap.size w w' := by
  have O := order_any a b hA hB
  rcases ways a b hA hB false with ⟨-, ho, hp⟩ | ⟨-, -, ho, hp⟩ | ⟨-, -, ho, hp⟩ | ⟨-, -, ho, hp⟩
  · rw [ho] at O
    have O' : Hid (∀ w, Calls Try.prog 11 #[.int .u64 (a : Int), .int .u64 (b : Int)] w fun e w' => e = .returned (.int .i64 2) ∧ Below w.heap.size w w') := O
    have R : Hid (∀ w, Calls Try.prog 44 #[.int .u64 (a : Int), .int .u64 (b : Int)] w fun e w' => e = .returned (.int .u64 ((pickN false a b : Nat) : Int)) ∧ w' = w) := by rw [hp]; exact other_any a b hA hB
    clear O ho hp hA hB
    generalize pickN false a b = o at *
    go_enter Try.func24, Try.ntmps24
    go_wp2_with fail
    refine (O'.out _).mono ?_
    rintro e w1 ⟨rfl, hb⟩
    go_wp2_with fail
    refine (R.out _).mono ?_
    rintro e w2 ⟨rfl, rfl⟩
    go_wp2
    go_ret
    exact ⟨rfl, hb⟩
  · rw [ho] at O
    have O' : Hid (∀ w, Calls Try.prog 11 #[.int .u64 (a : Int), .int .u64 (b : Int)] w fun e w' => e = .returned (.int .i64 (-1)) ∧ Below w.heap.size w w') := O
    rw [hp]
    clear O ho hp hA hB
    go_enter Try.func24, Try.ntmps24
    go_wp2_with fail
    refine (O'.out _).mono ?_
    rintro e w1 ⟨rfl, hb⟩
    go_wp2
    go_ret
    exact ⟨rfl, hb⟩
  · rw [ho] at O
    have O' : Hid (∀ w, Calls Try.prog 11 #[.int .u64 (a : Int), .int .u64 (b : Int)] w fun e w' => e = .returned (.int .i64 1) ∧ Below w.heap.size w w') := O
    rw [hp]
    clear O ho hp hA hB
    go_enter Try.func24, Try.ntmps24
    go_wp2_with fail
    refine (O'.out _).mono ?_
    rintro e w1 ⟨rfl, hb⟩
    go_wp2
    go_ret
    exact ⟨rfl, hb⟩
  · rw [ho] at O
    have O' : Hid (∀ w, Calls Try.prog 11 #[.int .u64 (a : Int), .int .u64 (b : Int)] w fun e w' => e = .returned (.int .i64 0) ∧ Below w.heap.size w w') := O
    have hx : bits .and .u64 (a : Int) (b : Int) = ((pickN false a b : Nat) : Int) := by
      rw [bits_and_u64_nat a b hA hB]
      rcases hp with ⟨rfl, h⟩ | ⟨rfl, rfl, h⟩ | ⟨rfl, rfl, h⟩
      · rw [h, Nat.and_self]
      · rw [h]; decide
      · rw [h]; decide
    clear O ho hp hA hB
    generalize pickN false a b = o at *
    go_enter Try.func24, Try.ntmps24
    go_wp2_with fail
    refine (O'.out _).mono ?_
    rintro e w1 ⟨rfl, hb⟩
    go_wp2
    go_ret
    exact ⟨rfl, hb⟩
end Go.Proofs.Ytlchjfdnkplmmaa
