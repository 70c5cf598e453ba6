/- What is proved here: a memory's words, bit by bit: of what is loaded, of what was stored. -/
import Derived.Test.YtpaanfeleeomnaaPlain
namespace Go.Proofs.Ytpaanfeleeomnaa
open Go.RowKit
set_option maxRecDepth 100000
set_option linter.unusedVariables false
theorem find_lo (xs : List (Nat × Int)) (a c : Nat) : (lo xs a).find? (fun x => x.1 == c) = if c < a then xs.find? (fun x => x.1 == c) else none := by
  rw [lo, List.find?_filter]
  by_cases h : c < a
  · rw [if_pos h]
    congr 1; funext x
    by_cases e : x.1 = c
    · simp [e, h]
    · simp [e]
  · rw [if_neg h, List.find?_eq_none]
    intro x hx
    simp; omega
theorem find_hi (xs : List (Nat × Int)) (a c : Nat) : (hi xs a).find? (fun x => x.1 == c) = if a < c then xs.find? (fun x => x.1 == c) else none := by
  rw [hi, List.find?_filter]
  by_cases h : a < c
  · rw [if_pos h]
    congr 1; funext x
    by_cases e : x.1 = c
    · simp [e, h]
    · simp [e]
  · rw [if_neg h, List.find?_eq_none]
    intro x hx
    simp; omega
/-- The word of a memory of which the cells from a to b are others. -/
theorem wordOf_parts (cs P : List (Nat × Int)) (a b c : Nat) (hP : ∀ x ∈ P, a ≤ x.1 ∧ x.1 ≤ b) :
    wordOf (lo cs a ++ P ++ hi cs b) c = if c < a ∨ b < c then wordOf cs c else wordOf P c := by
  by_cases hab : a ≤ b
  · by_cases h : c < a ∨ b < c
    · rw [if_pos h, wordOf, List.find?_append, List.find?_append, find_lo, find_hi, find_none (xs := P) (p := c) (fun x hx => by have := hP x hx; omega), wordOf]
      rcases h with h | h
      · rw [if_pos h, if_neg (by omega)]
        cases cs.find? (fun x => x.1 == c) <;> rfl
      · rw [if_neg (by omega), if_pos h]
        cases cs.find? (fun x => x.1 == c) <;> rfl
    · rw [if_neg h, wordOf, List.find?_append, List.find?_append, find_lo, find_hi, if_neg (by omega), if_neg (by omega), wordOf]
      cases P.find? (fun x => x.1 == c) <;> rfl
  · have hn : P = [] := List.eq_nil_iff_forall_not_mem.2 (fun x hx => by have := hP x hx; omega)
    subst hn
    have h : c < a ∨ b < c := by omega
    rw [if_pos h, wordOf, List.find?_append, List.find?_append, find_lo, find_hi, wordOf]
    by_cases h1 : c < a
    · rw [if_pos h1]
      by_cases h2 : b < c
      · rw [if_pos h2]; cases cs.find? (fun x => x.1 == c) <;> rfl
      · rw [if_neg h2]; cases cs.find? (fun x => x.1 == c) <;> rfl
    · rw [if_neg h1, if_pos (by omega)]; cases cs.find? (fun x => x.1 == c) <;> rfl
theorem wordOf_if (a n c : Nat) : wordOf (cellIf a n) c = if c = a then (n : Int) else 0 := by
  unfold cellIf
  split
  · rename_i h; subst h; rw [wordOf]; simp
  · rw [wordOf]
    by_cases e : c = a
    · subst e; simp
    · rw [if_neg e]
      have : ([(a, (n : Int))].find? (fun x => x.1 == c)) = none := by simp; omega
      rw [this]
theorem nowN_bit (old mask v j : Nat) (hm : mask < 18446744073709551616) : (nowN old mask v).testBit j = ((old.testBit j && (decide (j < 64) && !mask.testBit j)) || (v.testBit j && mask.testBit j)) := by
  rw [nowN, Nat.testBit_or, clr_bit _ _ _ hm, Nat.testBit_and]
theorem word_small {n j : Nat} (h : n < 18446744073709551616) (hj : 64 ≤ j) : n.testBit j = false := Nat.testBit_lt_two_pow (Nat.lt_of_lt_of_le h (Nat.pow_le_pow_right (n := 2) (by decide) hj))
/-- What is loaded, bit by bit. -/
theorem loadN_bit (cs : List (Nat × Int)) (hw : Words cs) (a k j : Nat) (k1 : 1 ≤ k) (k8 : k ≤ 8) :
    (loadN cs a k).testBit j = (decide (j < 8 * k) && (wordN cs (cellOf (a + j / 8))).testBit (8 * ((a + j / 8) % 8) + j % 8)) := by
  obtain ⟨last, hl⟩ : ∃ last, last = a + k - 1 := ⟨_, rfl⟩
  have hlow : (lowPart cs a last).testBit j = ((wordN cs (cellOf a)).testBit (j + 8 * (a - cellOf a)) && decide (j + 8 * (a - cellOf a) < 8 * (min last (cellOf a + 7) - cellOf a) + 8)) := by
    have hc := cellOf_facts a
    rw [lowPart, Nat.testBit_div_two_pow, Nat.testBit_and, mask_bit _ _ _ (by omega) (by omega)]
    congr 1
    rw [Bool.eq_iff_iff]; simp; omega
  by_cases hh : cellOf last = cellOf a
  · rw [loadN, ← hl, if_pos hh, hlow]
    unfold cellOf at hh ⊢
    by_cases hj : j < 8 * k
    · have e1 : a + j / 8 - (a + j / 8) % 8 = a - a % 8 := by omega
      rw [e1, decide_eq_true hj, decide_eq_true (by omega), Bool.true_and, Bool.and_true]
      congr 1; omega
    · rw [decide_eq_false hj, Bool.false_and, decide_eq_false (by omega), Bool.and_false]
  · have hc := cellOf_facts a
    have hc2 := cellOf_facts last
    have hhigh : (highPart cs a last).testBit j = (decide (j < 64) && (decide (8 * (cellOf last - a) ≤ j) && ((wordN cs (cellOf last)).testBit (j - 8 * (cellOf last - a)) && decide (j - 8 * (cellOf last - a) < 8 * (last - cellOf last) + 8)))) := by
      rw [highPart, show (18446744073709551616 : Nat) = 2 ^ 64 by rfl, Nat.testBit_mod_two_pow, Nat.testBit_mul_two_pow, Nat.testBit_and, mask_bit _ _ _ (by omega) (by omega)]
      congr 3
      rw [Bool.eq_iff_iff]; simp; omega
    rw [loadN, ← hl, if_neg hh, Nat.testBit_or, hlow, hhigh]
    by_cases hj : j < 8 * k
    · rw [decide_eq_true hj, Bool.true_and]
      by_cases hs : a + j / 8 ≤ cellOf a + 7
      · have e1 : cellOf (a + j / 8) = cellOf a := by unfold cellOf at hs ⊢; omega
        rw [e1, decide_eq_true (by unfold cellOf at *; omega), Bool.and_true, decide_eq_false (by unfold cellOf at *; omega : ¬ 8 * (cellOf last - a) ≤ j), Bool.false_and, Bool.and_false, Bool.or_false]
        congr 1; unfold cellOf at *; omega
      · have e1 : cellOf (a + j / 8) = cellOf last := by unfold cellOf at hs hh ⊢; omega
        rw [e1, decide_eq_false (by unfold cellOf at *; omega), Bool.and_false, Bool.false_or, decide_eq_true (by omega), decide_eq_true (by unfold cellOf at *; omega), decide_eq_true (by unfold cellOf at *; omega)]
        simp only [Bool.true_and, Bool.and_true]
        congr 1; unfold cellOf at *; omega
    · rw [decide_eq_false hj, Bool.false_and]
      rw [decide_eq_false (by unfold cellOf at *; omega), Bool.and_false, Bool.false_or]
      by_cases g : 8 * (cellOf last - a) ≤ j
      · rw [decide_eq_false (by unfold cellOf at *; omega : ¬ j - 8 * (cellOf last - a) < 8 * (last - cellOf last) + 8)]; simp
      · rw [decide_eq_false g]; simp
theorem wordN_toNat {cs : List (Nat × Int)} {c n : Nat} (h : wordOf cs c = (n : Int)) : wordN cs c = n := by rw [wordN, h]; rfl
/-- The words of what was stored, bit by bit. -/
theorem storeN_bit (cs : List (Nat × Int)) (hw : Words cs) (a k v c i : Nat) (k1 : 1 ≤ k) (k8 : k ≤ 8) (hc : c % 8 = 0) (hi64 : i < 64) :
    (wordN (storeN cs a k v) c).testBit i = if a ≤ c + i / 8 ∧ c + i / 8 < a + k then v.testBit (8 * (c + i / 8 - a) + i % 8) else (wordN cs c).testBit i := by
  obtain ⟨last, hl⟩ : ∃ last, last = a + k - 1 := ⟨_, rfl⟩
  have f1 := cellOf_facts a
  have f2 := cellOf_facts last
  have hP : ∀ x ∈ putCells cs a last v, cellOf a ≤ x.1 ∧ x.1 ≤ cellOf last := by
    intro x hx
    have hm : ∀ c n, x ∈ cellIf c n → x.1 = c := by
      intro c n h
      unfold cellIf at h
      split at h
      · simp at h
      · simp at h; rw [h]
    rw [putCells] at hx
    rcases List.mem_append.1 hx with h | h
    · rw [hm _ _ h]; omega
    · split at h
      · simp at h
      · rw [hm _ _ h]; omega
  have hword := wordOf_parts cs (putCells cs a last v) (cellOf a) (cellOf last) c hP
  have hstore : storeN cs a k v = lo cs (cellOf a) ++ putCells cs a last v ++ hi cs (cellOf last) := by rw [storeN, hl]
  rw [← hstore] at hword
  by_cases hout : c < cellOf a ∨ cellOf last < c
  · rw [if_pos hout] at hword
    rw [wordN, hword, if_neg (by omega)]
    rfl
  · rw [if_neg hout] at hword
    by_cases hca : c = cellOf a
    · have e : wordOf (putCells cs a last v) c = ((nowN (wordN cs (cellOf a)) (maskOf (max a (cellOf a) - cellOf a) (min last (cellOf a + 7) - cellOf a)) (v * 2 ^ (8 * (a - cellOf a)) % 18446744073709551616) : Nat) : Int) := by
        rw [putCells]
        by_cases hn : nowN (wordN cs (cellOf a)) (maskOf (max a (cellOf a) - cellOf a) (min last (cellOf a + 7) - cellOf a)) (v * 2 ^ (8 * (a - cellOf a)) % 18446744073709551616) = 0
        · rw [hn]
          simp only [cellIf, if_true, List.nil_append]
          split
          · rw [wordOf]; simp
          · have := wordOf_if (cellOf last) (nowN (wordN cs (cellOf last)) (maskOf (max a (cellOf last) - cellOf last) (min last (cellOf last + 7) - cellOf last)) (v / 2 ^ (8 * (cellOf last - a)))) c
            rw [if_neg (by omega), cellIf] at this
            exact this
        · have e0 : cellIf (cellOf a) (nowN (wordN cs (cellOf a)) (maskOf (max a (cellOf a) - cellOf a) (min last (cellOf a + 7) - cellOf a)) (v * 2 ^ (8 * (a - cellOf a)) % 18446744073709551616)) = [(cellOf a, ((nowN (wordN cs (cellOf a)) (maskOf (max a (cellOf a) - cellOf a) (min last (cellOf a + 7) - cellOf a)) (v * 2 ^ (8 * (a - cellOf a)) % 18446744073709551616) : Nat) : Int))] := by rw [cellIf, if_neg hn]
          rw [e0, wordOf, hca]
          simp
      rw [e] at hword
      rw [wordN_toNat hword, nowN_bit _ _ _ _ (mask_lt _ _), mask_bit _ _ _ (by omega) (by omega), show (18446744073709551616 : Nat) = 2 ^ 64 by rfl, Nat.testBit_mod_two_pow, Nat.testBit_mul_two_pow, hca]
      by_cases hin : a ≤ cellOf a + i / 8 ∧ cellOf a + i / 8 < a + k
      · rw [if_pos hin, decide_eq_true (by omega : 8 * (max a (cellOf a) - cellOf a) ≤ i ∧ i < 8 * (min last (cellOf a + 7) - cellOf a) + 8), decide_eq_true hi64, decide_eq_true (by omega : 8 * (a - cellOf a) ≤ i)]
        simp only [Bool.not_true, Bool.and_false, Bool.false_or, Bool.true_and, Bool.and_true]
        congr 1; omega
      · rw [if_neg hin, decide_eq_false (by omega : ¬ (8 * (max a (cellOf a) - cellOf a) ≤ i ∧ i < 8 * (min last (cellOf a + 7) - cellOf a) + 8)), decide_eq_true hi64]
        simp
    · have hcl : c = cellOf last := by unfold cellOf at *; omega
      have hne : cellOf last ≠ cellOf a := by omega
      have e : wordOf (putCells cs a last v) c = ((nowN (wordN cs (cellOf last)) (maskOf (max a (cellOf last) - cellOf last) (min last (cellOf last + 7) - cellOf last)) (v / 2 ^ (8 * (cellOf last - a))) : Nat) : Int) := by
        rw [putCells, if_neg hne]
        have h1 := wordOf_if (cellOf last) (nowN (wordN cs (cellOf last)) (maskOf (max a (cellOf last) - cellOf last) (min last (cellOf last + 7) - cellOf last)) (v / 2 ^ (8 * (cellOf last - a)))) c
        rw [if_pos hcl] at h1
        rw [wordOf, List.find?_append, find_none (xs := cellIf (cellOf a) _) (p := c), Option.none_or, ← h1, wordOf]
        intro x hx
        unfold cellIf at hx
        split at hx
        · simp at hx
        · simp at hx; rw [hx]; simpa using fun e => hca e.symm
      rw [e] at hword
      rw [wordN_toNat hword, nowN_bit _ _ _ _ (mask_lt _ _), mask_bit _ _ _ (by omega) (by omega), Nat.testBit_div_two_pow, hcl]
      by_cases hin : a ≤ cellOf last + i / 8 ∧ cellOf last + i / 8 < a + k
      · rw [if_pos hin, decide_eq_true (by omega : 8 * (max a (cellOf last) - cellOf last) ≤ i ∧ i < 8 * (min last (cellOf last + 7) - cellOf last) + 8)]
        simp only [Bool.not_true, Bool.and_false, Bool.false_or, Bool.and_true]
        congr 1; unfold cellOf at *; omega
      · rw [if_neg hin, decide_eq_false (by unfold cellOf at *; omega : ¬ (8 * (max a (cellOf last) - cellOf last) ≤ i ∧ i < 8 * (min last (cellOf last + 7) - cellOf last) + 8)), decide_eq_true hi64]
        simp
end Go.Proofs.Ytpaanfeleeomnaa
