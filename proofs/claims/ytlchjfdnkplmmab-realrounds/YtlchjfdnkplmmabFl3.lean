/- What is proved here: sums, products and quotients, plainly: never none; whatever the order; with both signs turned; by 1; less itself. -/
import Derived.Test.YtlchjfdnkplmmabFl2
namespace Go.Proofs.Ytlchjfdnkplmmab
open Ieee

def rungNear (mag : Nat) (place : Int) : Nat :=
  let last := max (place + mag.log2 - double.fractionBits) double.leastPlace
  min ((last - double.leastPlace).toNat * double.binade + Toward.even.cut false (mag <<< (place - last).toNat) (last - place).toNat) double.infRung
theorem even_cut (neg : Bool) (n d : Nat) : Toward.even.cut neg n d = Toward.even.cut false n d := by rw [cut_eq, cut_eq]
theorem nearest_word (neg : Bool) (mag : Nat) (place : Int) (h : mag ≠ 0) : double.nearest neg mag place = double.word neg (rungNear mag place) := by
  unfold Format.nearest rungNear
  rw [if_neg h]
  dsimp only
  rw [even_cut neg]
theorem rungNear_le (mag : Nat) (place : Int) : rungNear mag place ≤ infR := by
  have : rungNear mag place ≤ double.infRung := by unfold rungNear; exact Nat.min_le_right _ _
  rw [ir] at this; exact this
theorem nearest_rung (mag : Nat) (place : Int) : ∃ g, g ≤ infR ∧ (mag = 0 → g = 0) ∧ ∀ neg, double.nearest neg mag place = double.word neg g := by
  by_cases h : mag = 0
  · refine ⟨0, Nat.zero_le _, fun _ => rfl, fun neg => ?_⟩
    unfold Format.nearest; rw [if_pos h]
  · exact ⟨rungNear mag place, rungNear_le mag place, fun h0 => absurd h0 h, fun neg => nearest_word neg mag place h⟩
theorem not_none_word (neg : Bool) (g : Nat) (h : g ≤ infR) : ¬ isNone (double.word neg g) := by
  unfold isNone; rw [(rung_word neg g (by unfold infR at h; omega)).1]; omega
theorem not_none_write (d : Datum) (h : d.isNaN = false) : ¬ isNone (double.write d) := by
  cases d with
  | number s m i =>
    obtain ⟨g, hg, -, he⟩ := nearest_rung m i
    change ¬ isNone (double.nearest s m i)
    rw [he]; exact not_none_word s g hg
  | infinity s => change ¬ isNone (double.word s double.infRung); rw [ir]; exact not_none_word s _ (Nat.le_refl _)
  | nan s t => simp [Datum.isNaN] at h
theorem write_lt64 (d : Datum) : double.write d < 18446744073709551616 := by
  have : ∀ s g, g ≤ 9223372036854775807 → double.word s g < 18446744073709551616 := fun s g h => by rw [word_def]; split <;> omega
  cases d with
  | number s m i =>
    obtain ⟨g, hg, -, he⟩ := nearest_rung m i
    change double.nearest s m i < _
    rw [he]; exact this s g (by unfold infR at hg; omega)
  | infinity s => change double.word s double.infRung < _; rw [ir]; exact this s _ (by decide)
  | nan s t =>
    change double.word s (double.infRung + t % double.binade) < _
    rw [ir, bn]; exact this s _ (by omega)
theorem sum_nan (x y d : Datum) (h : x.sum y = some d) : d.isNaN = false := by
  cases x <;> cases y <;> simp only [Datum.sum] at h <;> first | (cases h; done) | skip
  all_goals first | (cases h; rfl) | (split at h <;> cases h; rfl)
theorem product_nan (x y d : Datum) (h : x.product y = some d) : d.isNaN = false := by
  cases x <;> cases y <;> simp only [Datum.product] at h <;> first | (cases h; done) | skip
  all_goals first | (cases h; rfl) | (split at h <;> cases h; rfl)
theorem quotient_nan (k : Nat) (x y d : Datum) (h : x.quotient k y = some d) : d.isNaN = false := by
  cases x <;> cases y <;> simp only [Datum.quotient] at h <;> first | (cases h; done) | skip
  · split at h
    · split at h <;> cases h; rfl
    · cases h; rfl
  · cases h; rfl
  · cases h; rfl
theorem map_write {o : Option Datum} {r : Nat} (h : o.map double.write = some r) : ∃ d, o = some d ∧ r = double.write d := by
  cases o with
  | none => cases h
  | some d => cases h; exact ⟨d, rfl, rfl⟩
theorem add_some {a b r : Nat} (h : double.add a b = some r) : ¬ isNone r ∧ r < 18446744073709551616 := by
  obtain ⟨d, hd, rfl⟩ := map_write h
  exact ⟨not_none_write d (sum_nan _ _ d hd), write_lt64 d⟩
theorem mul_some {a b r : Nat} (h : double.mul a b = some r) : ¬ isNone r ∧ r < 18446744073709551616 := by
  obtain ⟨d, hd, rfl⟩ := map_write h
  exact ⟨not_none_write d (product_nan _ _ d hd), write_lt64 d⟩
theorem div_some {a b r : Nat} (h : double.div a b = some r) : ¬ isNone r ∧ r < 18446744073709551616 := by
  obtain ⟨d, hd, rfl⟩ := map_write h
  exact ⟨not_none_write d (quotient_nan _ _ _ d hd), write_lt64 d⟩
theorem add_none {a b : Nat} (h : isNone a ∨ isNone b) : double.add a b = none := by
  unfold Format.add
  rcases h with h | h
  · rw [read_nan a h]; rfl
  · rw [read_nan b h]; cases double.read a <;> rfl
theorem mul_none {a b : Nat} (h : isNone a ∨ isNone b) : double.mul a b = none := by
  unfold Format.mul
  rcases h with h | h
  · rw [read_nan a h]; rfl
  · rw [read_nan b h]; cases double.read a <;> rfl
theorem div_none {a b : Nat} (h : isNone a ∨ isNone b) : double.div a b = none := by
  unfold Format.div
  rcases h with h | h
  · rw [read_nan a h]; rfl
  · rw [read_nan b h]; cases double.read a <;> rfl

/-! ### Whatever the order -/
theorem add_comm' (a b : Nat) : double.add a b = double.add b a := by
  unfold Format.add
  congr 1
  cases double.read a <;> cases double.read b <;> simp only [Datum.sum]
  · rename_i s m i t n j
    simp only [Int.min_comm j i, Int.add_comm (signed t n _) (signed s m _), Bool.and_comm t s]
  · rename_i s t
    by_cases h : s = t
    · subst h; rfl
    · rw [if_neg h, if_neg (fun e => h e.symm)]
theorem mul_comm' (a b : Nat) : double.mul a b = double.mul b a := by
  unfold Format.mul
  congr 1
  cases double.read a <;> cases double.read b <;> simp only [Datum.product]
  · rename_i s m i t n j
    rw [Nat.mul_comm, Int.add_comm, Bool.xor_comm]
  · rename_i s t
    rw [Bool.xor_comm]

/-! ### Signs turned -/
def flip (a : Nat) : Nat := if a < 9223372036854775808 then a + 9223372036854775808 else a - 9223372036854775808
theorem flip_lt (a : Nat) (h : a < 18446744073709551616) : flip a < 18446744073709551616 := by unfold flip; split <;> omega
theorem flip_rung (a : Nat) (h : a < 18446744073709551616) : rung (flip a) = rung a := by unfold flip rung; split <;> omega
theorem flip_sgn (a : Nat) (h : a < 18446744073709551616) : sgn (flip a) = !sgn a := by
  unfold flip sgn; split
  · rename_i h1
    rw [show (a + 9223372036854775808) / 9223372036854775808 = 1 by omega, show a / 9223372036854775808 = 0 by omega]; rfl
  · rename_i h1
    rw [show (a - 9223372036854775808) / 9223372036854775808 = 0 by omega, show a / 9223372036854775808 = 1 by omega]; rfl
theorem flip_none (a : Nat) (h : a < 18446744073709551616) : isNone (flip a) ↔ isNone a := by unfold isNone; rw [flip_rung a h]
theorem read_flip (a : Nat) (h : a < 18446744073709551616) : double.read (flip a) = (double.read a).opposite := by
  have hr := flip_rung a h; have hs := flip_sgn a h
  rcases Nat.lt_trichotomy (rung a) infR with g | g | g
  · rw [read_num a g, read_num (flip a) (by rw [hr]; exact g), hr, hs]; rfl
  · rw [read_inf a g, read_inf (flip a) (by rw [hr]; exact g), hs]; rfl
  · rw [read_nan a g, read_nan (flip a) (by rw [hr]; exact g), hr, hs]; rfl
theorem signed_not (s : Bool) (m u : Nat) : signed (!s) m u = - signed s m u := by
  unfold signed; cases s <;> simp
theorem word_flip (s : Bool) (g : Nat) (h : g ≤ infR) : double.word (!s) g = flip (double.word s g) := by
  unfold infR at h
  rw [word_def, word_def]; unfold flip
  cases s
  · simp only [Bool.not_false, if_true, Bool.false_eq_true, if_false]; rw [if_pos (by omega)]; omega
  · simp only [Bool.not_true, if_true, Bool.false_eq_true, if_false]; rw [if_neg (by omega)]; omega
theorem mul_flip (a b : Nat) (ha : a < 18446744073709551616) (hb : b < 18446744073709551616) : double.mul (flip a) (flip b) = double.mul a b := by
  unfold Format.mul
  rw [read_flip a ha, read_flip b hb]
  congr 1
  cases double.read a <;> cases double.read b <;> simp only [Datum.product, Datum.opposite, Bool.not_xor_not]
theorem add_flip (a b : Nat) (ha : a < 18446744073709551616) (hb : b < 18446744073709551616) : (double.add a b = none ∧ double.add (flip a) (flip b) = none) ∨
    ∃ r r', double.add a b = some r ∧ double.add (flip a) (flip b) = some r' ∧ rung r' = rung r ∧ (rung r ≠ 0 → r' = flip r) := by
  unfold Format.add
  rw [read_flip a ha, read_flip b hb]
  have inf : ∀ s : Bool, rung (double.write (.infinity !s)) = rung (double.write (.infinity s)) ∧ (rung (double.write (.infinity s)) ≠ 0 → double.write (.infinity !s) = flip (double.write (.infinity s))) := fun s => by
    cases s <;> decide
  cases double.read a <;> cases double.read b <;> simp only [Datum.sum, Datum.opposite]
  · rename_i s m i t n j
    right
    refine ⟨_, _, rfl, rfl, ?_⟩
    simp only [signed_not]
    generalize signed s m (i - min i j).toNat = A
    generalize signed t n (j - min i j).toNat = B
    generalize min i j = base
    have e : (-A + -B).natAbs = (A + B).natAbs := by omega
    rw [e]
    obtain ⟨g, hg, h0, he⟩ := nearest_rung (A + B).natAbs base
    change rung (double.nearest _ _ _) = rung (double.nearest _ _ _) ∧ (rung (double.nearest _ _ _) ≠ 0 → double.nearest _ _ _ = flip (double.nearest _ _ _))
    simp only [he]
    have hlt : g < 9223372036854775808 := by unfold infR at hg; omega
    refine ⟨by rw [(rung_word _ g hlt).1, (rung_word _ g hlt).1], fun hne => ?_⟩
    rw [(rung_word _ g hlt).1] at hne
    have ht : A + B ≠ 0 := fun hz => hne (h0 (by omega))
    have ht' : -A + -B ≠ 0 := by omega
    rw [if_neg ht, if_neg ht', ← word_flip _ g hg]
    congr 1
    by_cases hp : A + B < 0
    · simp [hp]; omega
    · simp [hp]; omega
  · right; exact ⟨_, _, rfl, rfl, inf _⟩
  · left; exact ⟨rfl, rfl⟩
  · right; exact ⟨_, _, rfl, rfl, inf _⟩
  · rename_i s t
    by_cases h : s = t
    · subst h; right; rw [if_pos rfl, if_pos rfl]; exact ⟨_, _, rfl, rfl, inf _⟩
    · left; rw [if_neg h, if_neg (by simpa using h)]; exact ⟨rfl, rfl⟩
  all_goals (left; exact ⟨rfl, rfl⟩)

/-! ### By 1, and less itself -/
theorem not_none_cases (a : Nat) (h : ¬ isNone a) : rung a < infR ∨ rung a = infR := by unfold isNone at h; omega
theorem add_neg_fin (a : Nat) (h : a < 18446744073709551616) (hf : rung a < infR) : double.add a (flip a) = some 0 := by
  unfold Format.add
  rw [read_flip a h, read_num a hf]
  simp only [Datum.opposite, Datum.sum, signed_not]
  have e : ∀ A : Int, A + -A = 0 := fun A => by omega
  simp only [e, Option.map]
  cases sgn a <;> rfl
theorem add_neg_inf (a : Nat) (h : a < 18446744073709551616) (hf : rung a = infR) : double.add a (flip a) = none := by
  unfold Format.add
  rw [read_flip a h, read_inf a hf]
  simp only [Datum.opposite, Datum.sum]
  cases sgn a <;> rfl
theorem one_read : double.read 4607182418800017408 = .number false 4503599627370496 (-52) := by decide +kernel
theorem mul_one' (a : Nat) (h : a < 18446744073709551616) (hn : ¬ isNone a) : double.mul a 4607182418800017408 = some a := by
  unfold Format.mul
  rw [one_read]
  rcases not_none_cases a hn with g | g
  · rw [read_num a g]
    simp only [Datum.product, Option.map, Option.some.injEq, Bool.xor_false]
    change double.nearest _ _ _ = _
    have := nearest_exact (sgn a) (rung a) 52 g
    rw [word_self a h] at this
    have ep : -1074 + (expo (rung a) : Int) + -52 = -1074 + expo (rung a) - ((52 : Nat) : Int) := by omega
    have em : mant (rung a) * 4503599627370496 = mant (rung a) * 2 ^ 52 := by rw [show (4503599627370496 : Nat) = 2 ^ 52 by decide]
    rw [ep, em]; exact this
  · rw [read_inf a g]
    simp only [Datum.product, Option.map]
    rw [if_neg (show ¬ (4503599627370496 : Nat) = 0 by omega)]
    simp only [Bool.xor_false, Option.some.injEq]
    change double.word (sgn a) double.infRung = a
    rw [ir]; have := word_self a h; rw [g] at this; exact this
theorem div_one' (a : Nat) (h : a < 18446744073709551616) (hn : ¬ isNone a) : double.div a 4607182418800017408 = some a := by
  unfold Format.div
  rw [one_read]
  rcases not_none_cases a hn with g | g
  · rw [read_num a g]
    simp only [Datum.quotient]
    rw [if_neg (show ¬ (4503599627370496 : Nat) = 0 by omega)]
    simp only [Option.map, Option.some.injEq, Bool.xor_false]
    change double.nearest _ _ _ = _
    have hl : (mant (rung a)).log2 ≤ 52 := by
      by_cases h0 : mant (rung a) = 0
      · rw [h0]; decide
      · have := mant_lt (rung a)
        have : (mant (rung a)).log2 < 53 := (Nat.log2_lt h0).2 (by omega)
        omega
    have hlog : (4503599627370496 : Nat).log2 = 52 := by decide
    rw [hlog, fb]
    generalize hm : 52 + 2 + 52 - (mant (rung a)).log2 = more
    have h54 : 54 ≤ more := by omega
    have e1 : mant (rung a) <<< more = mant (rung a) * 2 ^ (more - 52) * 4503599627370496 := by
      rw [Nat.shiftLeft_eq, Nat.mul_assoc]; congr 1
      rw [show (4503599627370496 : Nat) = 2 ^ 52 by decide, ← Nat.pow_add]; congr 1; omega
    rw [e1, Nat.mul_div_cancel _ (by decide), Nat.mul_mod_left]
    have e2 : 2 * (mant (rung a) * 2 ^ (more - 52)) + (0 != 0 : Bool).toNat = mant (rung a) * 2 ^ (more - 51) := by
      have z : (0 != 0 : Bool).toNat = 0 := rfl
      rw [show more - 51 = more - 52 + 1 by omega, Nat.pow_succ, z, Nat.add_zero, Nat.mul_comm 2, Nat.mul_assoc]
    rw [e2]
    have := nearest_exact (sgn a) (rung a) (more - 51) g
    rw [word_self a h] at this
    have ep : -1074 + (expo (rung a) : Int) - -52 - (more : Int) - 1 = -1074 + expo (rung a) - ((more - 51 : Nat) : Int) := by omega
    rw [ep]; exact this
  · rw [read_inf a g]
    simp only [Datum.quotient, Option.map, Bool.xor_false, Option.some.injEq]
    change double.word (sgn a) double.infRung = a
    rw [ir]; have := word_self a h; rw [g] at this; exact this
end Go.Proofs.Ytlchjfdnkplmmab
