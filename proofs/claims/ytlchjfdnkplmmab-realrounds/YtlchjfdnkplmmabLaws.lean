/- What is proved here: plain facts that the law of numbers made whole asks: which ones are told, and how they compare. -/
import Derived.Test.YtlchjfdnkplmmabAwake
namespace Go.Proofs.Ytlchjfdnkplmmab
open Go.RowKit
open Ieee

theorem rclass_none (a : Nat) (hA : a < 18446744073709551616) (h : isNone a) : ∀ w, Calls Try.prog 4 #[.int .u64 (a : Int)] w fun e w' => e = .returned (.int .i64 4) ∧ w' = w := by
  have := rclass_any a hA; rw [(none_class a).1 h] at this; exact this
theorem class_beq (a : Nat) (h : ¬ isNone a) : ((classN a : Int) == 4) = false := by
  have : classN a ≠ 4 := fun e => h ((none_class a).2 e)
  simp; omega
/-- A number made whole is one of two, and which of them hangs on the way alone. -/
theorem refR_two (s : Bool) (r : Nat) (hr : r < infR) : ∃ (x y : Nat) (more mid : Bool), x ≤ r ∧ y ≤ infR ∧ (more = true → x < r ∧ r < y) ∧ (more = false → x = r) ∧ ∀ t, refR t s r = if (upOf t s mid && more) = true then y else x := by
  unfold infR at hr
  rcases Nat.lt_or_ge r 4841369599423283200 with g | g
  rotate_left
  · refine ⟨r, r, false, false, Nat.le_refl _, by unfold infR; omega, ?_, fun _ => rfl, fun t => ?_⟩
    · intro h; cases h
    · unfold refR; rw [if_pos g]; simp
  rcases Nat.lt_or_ge r 4607182418800017408 with g2 | g2
  · refine ⟨0, 4607182418800017408, decide (0 < r), decide (4602678819172646912 < r), Nat.zero_le _, by decide, ?_, ?_, fun t => ?_⟩
    · intro h; rw [decide_eq_true_eq] at h; exact ⟨h, g2⟩
    · intro h; rw [decide_eq_false_iff_not] at h; omega
    · unfold refR; rw [if_neg (show ¬ 4841369599423283200 ≤ r by omega), if_pos g2]
  · have hq1 : 1023 ≤ r / 4503599627370496 := by omega
    have hq2 : r / 4503599627370496 < 1075 := by omega
    have href : ∀ t, refR t s r = if (upOf t s (decide (2 ^ (1075 - r / 4503599627370496) / 2 < r % 2 ^ (1075 - r / 4503599627370496)) || (decide (r % 2 ^ (1075 - r / 4503599627370496) = 2 ^ (1075 - r / 4503599627370496) / 2) && (decide (r / 4503599627370496 = 1023) || decide ((r - r % 2 ^ (1075 - r / 4503599627370496)) / 2 ^ (1075 - r / 4503599627370496) % 2 = 1)))) && decide (0 < r % 2 ^ (1075 - r / 4503599627370496))) = true then r - r % 2 ^ (1075 - r / 4503599627370496) + 2 ^ (1075 - r / 4503599627370496) else r - r % 2 ^ (1075 - r / 4503599627370496) := fun t => by
      unfold refR
      rw [if_neg (show ¬ 4841369599423283200 ≤ r by omega), if_neg (show ¬ r < 4607182418800017408 by omega)]
    have hp := Nat.two_pow_pos (1075 - r / 4503599627370496)
    have hle : 2 ^ (1075 - r / 4503599627370496) ≤ 4503599627370496 := Nat.pow_le_pow_right (show 0 < 2 by decide) (show 1075 - r / 4503599627370496 ≤ 52 by omega)
    generalize 2 ^ (1075 - r / 4503599627370496) = low at *
    have hml := Nat.mod_lt r hp
    have hmle := Nat.mod_le r low
    refine ⟨r - r % low, r - r % low + low, _, _, by omega, by unfold infR; omega, ?_, ?_, href⟩
    · intro h; rw [decide_eq_true_eq] at h; omega
    · intro h; rw [decide_eq_false_iff_not] at h; omega
theorem order_of (a b : Nat) (ha : ¬ isNone a) (hb : ¬ isNone b) : (rank a < rank b → orderN a b = -1) ∧ (rank b < rank a → orderN a b = 1) ∧ (rank a = rank b → orderN a b = 0) := by
  have e : orderN a b = orderF a b := by unfold orderN; rw [if_neg (fun h => h.elim ha hb)]
  rw [e]; unfold orderF
  refine ⟨fun h => by rw [if_pos h], fun h => by rw [if_neg (by omega), if_pos h], fun h => by rw [if_neg (by omega), if_neg (by omega)]⟩
/-- What is told of a number that is one. -/
theorem rounds_told (a : Nat) (hA : a < 18446744073709551616) (hn : ¬ isNone a) :
    (roundN a 1 = a ∧ roundN a 2 = a ∧ roundN a 0 = a ∧ roundN a 3 = a ∧ orderN a a = 0) ∨
    (roundN a 1 < 18446744073709551616 ∧ roundN a 2 < 18446744073709551616 ∧ roundN a 1 ≠ roundN a 2 ∧ roundN a 1 ≠ a ∧ orderN (roundN a 1) a = -1 ∧ orderN (roundN a 2) a = 1 ∧ (roundN a 0 = roundN a 1 ∨ roundN a 0 = roundN a 2) ∧ (roundN a 3 = roundN a 1 ∨ roundN a 3 = roundN a 2)) := by
  have hs := (order_of a a hn hn).2.2 rfl
  rcases not_none_cases a hn with hf | hf
  rotate_left
  · left
    have e : ∀ way, roundN a way = a := fun way => by unfold roundN; rw [if_neg hn, if_neg (by unfold infR at hf; omega)]
    exact ⟨e 1, e 2, e 0, e 3, hs⟩
  have ew : ∀ way, roundN a way = wholeN a way := fun way => by unfold roundN; rw [if_neg hn, if_pos hf]
  have e1 : roundN a 1 = double.word (sgn a) (refR .down (sgn a) (rung a)) := (ew 1).trans (roundW_ref .down a hA hf)
  have e2 : roundN a 2 = double.word (sgn a) (refR .up (sgn a) (rung a)) := (ew 2).trans (roundW_ref .up a hA hf)
  have e0 : roundN a 0 = double.word (sgn a) (refR .zero (sgn a) (rung a)) := (ew 0).trans (roundW_ref .zero a hA hf)
  have e3 : roundN a 3 = double.word (sgn a) (refR .even (sgn a) (rung a)) := (ew 3).trans (roundW_ref .even a hA hf)
  obtain ⟨x, y, more, mid, hx, hy, hm, hm', hR⟩ := refR_two (sgn a) (rung a) hf
  have ea := word_self a hA
  rw [e1, e2, e0, e3, hR, hR, hR, hR]
  cases more with
  | false =>
    left
    have hxr := hm' rfl
    simp only [Bool.and_false, Bool.false_eq_true, if_false, hxr, ea]
    exact ⟨trivial, trivial, trivial, trivial, hs⟩
  | true =>
    right
    obtain ⟨h1, h2⟩ := hm rfl
    have lx : x < 9223372036854775808 := by unfold infR at hf; omega
    have ly : y < 9223372036854775808 := by unfold infR at hy; omega
    have nx : ∀ s, ¬ isNone (double.word s x) := fun s => not_none_word s x (by omega)
    have ny : ∀ s, ¬ isNone (double.word s y) := fun s => not_none_word s y hy
    have wx : ∀ s, double.word s x < 18446744073709551616 := fun s => by rw [word_def]; split <;> omega
    have wy : ∀ s, double.word s y < 18446744073709551616 := fun s => by rw [word_def]; split <;> omega
    have rx : ∀ s, rank (double.word s x) = if s then -(x : Int) else x := fun s => rank_word s x lx
    have ry : ∀ s, rank (double.word s y) = if s then -(y : Int) else y := fun s => rank_word s y ly
    have ra : rank a = if sgn a then -(rung a : Int) else rung a := rfl
    have hne : ∀ s, double.word s x ≠ double.word s y := fun s h => by
      have := congrArg rung h
      rw [(rung_word s x lx).1, (rung_word s y ly).1] at this; omega
    have hxa : ∀ s, double.word s x ≠ a := fun s h => by
      have := congrArg rung h
      rw [(rung_word s x lx).1] at this; omega
    have hya : ∀ s, double.word s y ≠ a := fun s h => by
      have := congrArg rung h
      rw [(rung_word s y ly).1] at this; omega
    have ox := fun s => order_of (double.word s x) a (nx s) hn
    have oy := fun s => order_of (double.word s y) a (ny s) hn
    cases hsg : sgn a
    · rw [hsg] at ra
      simp only [upOf, Bool.and_true, Bool.false_eq_true, if_false, Bool.not_false, if_true] at ra ⊢
      refine ⟨wx _, wy _, hne _, hxa _, (ox false).1 (by rw [rx, ra]; simp; omega), (oy false).2.1 (by rw [ry, ra]; simp; omega), Or.inl trivial, ?_⟩
      cases mid
      · left; rfl
      · right; rfl
    · rw [hsg] at ra
      simp only [upOf, Bool.and_true, Bool.false_eq_true, if_false, Bool.not_true, if_true] at ra ⊢
      refine ⟨wy _, wx _, fun h => hne _ h.symm, hya _, (oy true).1 (by rw [ry, ra]; simp; omega), (ox true).2.1 (by rw [rx, ra]; simp; omega), Or.inr trivial, ?_⟩
      cases mid
      · right; rfl
      · left; rfl
end Go.Proofs.Ytlchjfdnkplmmab
