/- What is proved here: a memory of which bytes are cleared, plainly. -/
import Derived.Test.YtolmcbnammhjjaaBackPlain
import Derived.Test.YtolmcbnammhjjaaClear
import Derived.Test.YtolmcbnammhjjaaPeek
namespace Go.Proofs.Ytolmcbnammhjjaa
open Go.RowKit
set_option linter.unusedVariables false
theorem find_mid (xs : List (Nat × Int)) (a b c : Nat) (h1 : a ≤ c) (h2 : c ≤ b) : (mid xs a b).find? (fun x => x.1 == c) = xs.find? (fun x => x.1 == c) := by
  rw [mid, List.find?_filter]
  congr 1; funext x
  by_cases e : x.1 = c
  · simp [e, h1, h2]
  · simp [e]
def clearW (a last c old : Nat) : Nat := nowN old (maskOf (max a c - c) (min last (c + 7) - c)) 0
theorem clears_mem {a last : Nat} {xs : List (Nat × Int)} {y : Nat × Int} (h : y ∈ clears a last xs) : ∃ x ∈ xs, y = (x.1, ((clearW a last x.1 x.2.toNat : Nat) : Int)) ∧ clearW a last x.1 x.2.toNat ≠ 0 := by
  rw [clears, List.mem_flatMap] at h
  obtain ⟨x, hx, hy⟩ := h
  obtain ⟨e, h0⟩ := cellIf_mem hy
  exact ⟨x, hx, e, h0⟩
theorem wordOf_clears (a last c : Nat) : ∀ (xs : List (Nat × Int)), Srt xs → wordOf (clears a last xs) c = match xs.find? (fun x => x.1 == c) with | some x => ((clearW a last c x.2.toNat : Nat) : Int) | none => 0
  | [], _ => by simp [clears, wordOf]
  | x :: xs, h => by
    obtain ⟨h1, h2⟩ := List.pairwise_cons.1 h
    have ih := wordOf_clears a last c xs h2
    have e : clears a last (x :: xs) = clearC a last x ++ clears a last xs := by simp [clears]
    have hw := wordOf_if x.1 (clearW a last x.1 x.2.toNat) c
    by_cases hx : x.1 = c
    · have hf : (x :: xs).find? (fun x => x.1 == c) = some x := by simp [hx]
      rw [hf]
      have hrest : wordOf (clears a last xs) c = 0 := by
        rw [ih, find_none (fun y hy => by have := h1 y hy; omega)]
      by_cases h0 : clearW a last x.1 x.2.toNat = 0
      · have e0 : clearC a last x = [] := by
          show cellIf x.1 (clearW a last x.1 x.2.toNat) = []
          rw [h0]; rfl
        rw [e, e0, List.nil_append, hrest]
        simp only
        rw [← hx, h0]; rfl
      · have e0 : clearC a last x = [(x.1, ((clearW a last x.1 x.2.toNat : Nat) : Int))] := by
          show cellIf x.1 (clearW a last x.1 x.2.toNat) = _
          rw [cellIf, if_neg h0]
        rw [e, e0, wordOf]
        simp [hx]
    · have hf : (x :: xs).find? (fun x => x.1 == c) = xs.find? (fun x => x.1 == c) := by simp [hx]
      rw [hf, ← ih, e, wordOf, List.find?_append, find_none (xs := clearC a last x) (p := c) (fun y hy => by
        obtain ⟨ey, _⟩ := cellIf_mem hy
        rw [ey]; exact hx), Option.none_or, wordOf]
theorem lastOf_ge {a n : Nat} (ha : a < 18446744073709551616) : a ≤ lastOf a n ∧ lastOf a n < 18446744073709551616 := by rw [lastOf]; omega
/-- The words of a memory of which bytes are cleared. -/
theorem clearN_word (cs : List (Nat × Int)) (hs : Srt cs) (hw : Words cs) (a n c : Nat) (hn : n ≠ 0) (ha : a < 18446744073709551616) :
    wordN (clearN cs a n) c = if c < cellOf a ∨ lastOf a n < c then wordN cs c else clearW a (lastOf a n) c (wordN cs c) := by
  have hl := lastOf_ge (n := n) ha
  have f := cellOf_facts a
  have hP : ∀ x ∈ clears a (lastOf a n) (mid cs (cellOf a) (lastOf a n)), cellOf a ≤ x.1 ∧ x.1 ≤ lastOf a n := by
    intro x hx
    obtain ⟨y, hy, e, _⟩ := clears_mem hx
    rw [e]
    exact (mid_mem.1 hy).2
  rw [clearN, if_neg hn, wordN, wordOf_parts cs _ _ _ c hP]
  by_cases hout : c < cellOf a ∨ lastOf a n < c
  · rw [if_pos hout, if_pos hout]; rfl
  · rw [if_neg hout, if_neg hout, wordOf_clears a (lastOf a n) c _ (mid_srt hs _ _), find_mid cs _ _ c (by omega) (by omega), wordN, wordOf]
    cases hf : cs.find? (fun x => x.1 == c) with
    | none => simp [clearW, nowN, clr]
    | some x => simp
theorem clearW_bit (a last c old i : Nat) (h1 : c ≤ last) (h2 : a ≤ c + 7) (hi64 : i < 64) : (clearW a last c old).testBit i = if a ≤ c + i / 8 ∧ c + i / 8 ≤ last then false else old.testBit i := by
  rw [clearW, nowN_bit _ _ _ _ (mask_lt _ _), mask_bit _ _ _ (by omega) (by omega)]
  by_cases hin : a ≤ c + i / 8 ∧ c + i / 8 ≤ last
  · rw [if_pos hin, decide_eq_true (by omega : 8 * (max a c - c) ≤ i ∧ i < 8 * (min last (c + 7) - c) + 8)]
    simp
  · rw [if_neg hin, decide_eq_false (by omega : ¬ (8 * (max a c - c) ≤ i ∧ i < 8 * (min last (c + 7) - c) + 8)), decide_eq_true hi64]
    simp
theorem clearN_bit (cs : List (Nat × Int)) (hs : Srt cs) (hw : Words cs) (a n c i : Nat) (ha : a < 18446744073709551616) (hc : c % 8 = 0) (hi64 : i < 64) (hci : c + i / 8 < 18446744073709551616) :
    (wordN (clearN cs a n) c).testBit i = if a ≤ c + i / 8 ∧ c + i / 8 < a + n then false else (wordN cs c).testBit i := by
  by_cases hn : n = 0
  · subst hn
    rw [clearN, if_pos rfl, if_neg (by omega)]
  have f := cellOf_facts a
  have hl : ∀ x, x < 18446744073709551616 → (a ≤ x → (x ≤ lastOf a n ↔ x < a + n)) := by intro x hx hax; rw [lastOf]; omega
  rw [clearN_word cs hs hw a n c hn ha]
  have hlg := lastOf_ge (n := n) ha
  by_cases hout : c < cellOf a ∨ lastOf a n < c
  · rw [if_pos hout, if_neg]
    rintro ⟨q1, q2⟩
    have := (hl (c + i / 8) hci q1).2 q2
    unfold cellOf at *
    omega
  · rw [if_neg hout, clearW_bit _ _ _ _ _ (by omega) (by omega) hi64]
    by_cases hax : a ≤ c + i / 8
    · have := hl (c + i / 8) hci hax
      by_cases hx : c + i / 8 < a + n
      · rw [if_pos ⟨hax, this.2 hx⟩, if_pos ⟨hax, hx⟩]
      · rw [if_neg (fun h => hx (this.1 h.2)), if_neg (fun h => hx h.2)]
    · rw [if_neg (fun h => hax h.1), if_neg (fun h => hax h.1)]
theorem peekN_bit (cs : List (Nat × Int)) (a j : Nat) : (peekN cs a).testBit j = (decide (j < 8) && (wordN cs (cellOf a)).testBit (8 * (a % 8) + j)) := by
  rw [peekN, show (256 : Nat) = 2 ^ 8 by rfl, Nat.testBit_mod_two_pow, Nat.testBit_div_two_pow, Nat.add_comm]
/-- Cleared bytes are 0, others stay. -/
theorem peek_clear (cs : List (Nat × Int)) (hs : Srt cs) (hw : Words cs) (a n p : Nat) (ha : a < 18446744073709551616) (hp : p < 18446744073709551616) :
    peekN (clearN cs a n) p = if a ≤ p ∧ p < a + n then 0 else peekN cs p := by
  apply Nat.eq_of_testBit_eq
  intro j
  rw [peekN_bit]
  have e : ∀ j, j < 8 → cellOf p + (8 * (p % 8) + j) / 8 = p := by intro j hj; unfold cellOf; omega
  by_cases hj : j < 8
  · rw [decide_eq_true hj, Bool.true_and, clearN_bit cs hs hw a n _ _ ha (cellOf_facts p).1 (by omega) (by rw [e j hj]; exact hp), e j hj]
    by_cases h : a ≤ p ∧ p < a + n
    · rw [if_pos h, if_pos h, Nat.zero_testBit]
    · rw [if_neg h, if_neg h, peekN_bit, decide_eq_true hj, Bool.true_and]
  · rw [decide_eq_false hj, Bool.false_and]
    by_cases h : a ≤ p ∧ p < a + n
    · rw [if_pos h, Nat.zero_testBit]
    · rw [if_neg h, peekN_bit, decide_eq_false hj, Bool.false_and]
theorem clears_srt (a last : Nat) : ∀ (xs : List (Nat × Int)), Srt xs → Srt (clears a last xs)
  | [], _ => List.Pairwise.nil
  | x :: xs, h => by
    obtain ⟨h1, h2⟩ := List.pairwise_cons.1 h
    have e : clears a last (x :: xs) = clearC a last x ++ clears a last xs := by simp [clears]
    rw [e]
    refine srt_join ?_ (clears_srt a last xs h2) ?_
    · unfold clearC cellIf
      split
      · exact List.Pairwise.nil
      · exact List.pairwise_singleton _ _
    · intro y hy z hz
      obtain ⟨ey, _⟩ := cellIf_mem hy
      obtain ⟨u, hu, ez, _⟩ := clears_mem hz
      rw [ey, ez]
      exact h1 u hu
theorem clearW_lt (a last c old : Nat) (h : old < 18446744073709551616) : clearW a last c old < 18446744073709551616 := nowN_lt _ _ _ h (mask_lt _ _)
/-- With bytes cleared a memory stays fit. -/
theorem fit_clear {ms cs : List (Nat × Int)} (h : FitQ ms cs) (hw : Words cs) (hrc : ∀ y ∈ cs, y.1 < 18446744073709551616) (a n : Nat) (ha : a < 18446744073709551616) :
    FitQ ms (clearN cs a n) ∧ Words (clearN cs a n) ∧ ∀ y ∈ clearN cs a n, y.1 < 18446744073709551616 := by
  by_cases hn : n = 0
  · subst hn
    rw [clearN, if_pos rfl]
    exact ⟨h, hw, hrc⟩
  obtain ⟨h1, h2, h3, h4, h5, h6⟩ := h
  obtain ⟨last, hl⟩ : ∃ last, last = lastOf a n := ⟨_, rfl⟩
  have hlg := lastOf_ge (n := n) ha
  rw [← hl] at hlg
  have f1 := cellOf_facts a
  have l1 := parts_len cs h4 (cellOf a) last (by omega)
  have l2 := clears_len a last (mid cs (cellOf a) last)
  rw [clearN, if_neg hn, ← hl]
  have hmm : ∀ y ∈ clears a last (mid cs (cellOf a) last), ∃ x ∈ cs, x.1 = y.1 ∧ cellOf a ≤ y.1 ∧ y.1 ≤ last ∧ y.2 ≠ 0 ∧ 0 ≤ y.2 ∧ y.2 < 18446744073709551616 := by
    intro y hy
    obtain ⟨x, hx, e, h0⟩ := clears_mem hy
    obtain ⟨hx1, hx2, hx3⟩ := mid_mem.1 hx
    have hlt := clearW_lt a last x.1 x.2.toNat (by have := hw x hx1; omega)
    rw [e]
    exact ⟨x, hx1, rfl, hx2, hx3, by simpa using h0, by simp, by simp only; omega⟩
  refine ⟨⟨h1, by simp; omega, h3, srt_join (srt_join (lo_srt h4 _) (clears_srt _ _ _ (mid_srt h4 _ _)) ?_) (hi_srt h4 _) ?_, h5, ?_⟩, ?_, ?_⟩
  · intro x hx y hy
    have q1 := (lo_mem.1 hx).2
    obtain ⟨_, _, _, q2, _⟩ := hmm y hy
    omega
  · intro x hx y hy
    have q2 := (hi_mem.1 hy).2
    rcases List.mem_append.1 hx with g | g
    · have q1 := (lo_mem.1 g).2; omega
    · obtain ⟨_, _, _, _, q3, _⟩ := hmm x g
      omega
  · intro c hc
    rcases List.mem_append.1 hc with g | g
    · rcases List.mem_append.1 g with g | g
      · exact h6 c (lo_mem.1 g).1
      · obtain ⟨x, hx, e, _, _, q, _⟩ := hmm c g
        obtain ⟨r1, _, r3⟩ := h6 x hx
        rw [e] at r1 r3
        exact ⟨r1, q, r3⟩
    · exact h6 c (hi_mem.1 g).1
  · refine words_app (words_app (words_lo hw _) ?_) (words_hi hw _)
    intro x hx
    obtain ⟨_, _, _, _, _, _, q⟩ := hmm x hx
    exact q
  · intro y hy
    rcases List.mem_append.1 hy with g | g
    · rcases List.mem_append.1 g with g | g
      · exact hrc y (lo_mem.1 g).1
      · obtain ⟨_, _, _, _, q, _⟩ := hmm y g
        omega
    · exact hrc y (hi_mem.1 g).1
/-- A byte of a number of eight. -/
theorem load_byte (cs : List (Nat × Int)) (hw : Words cs) (a k : Nat) (hk : k < 8) : loadN cs (a + k) 1 = loadN cs a 8 / 2 ^ (8 * k) % 256 := by
  apply Nat.eq_of_testBit_eq
  intro j
  rw [loadN_bit cs hw (a + k) 1 j (by omega) (by omega), show (256 : Nat) = 2 ^ 8 by rfl, Nat.testBit_mod_two_pow, Nat.testBit_div_two_pow, loadN_bit cs hw a 8 _ (by omega) (by omega)]
  by_cases hj : j < 8
  · rw [decide_eq_true (by omega : j < 8 * 1), decide_eq_true (by omega : j + 8 * k < 8 * 8)]
    simp only [Bool.true_and]
    have e : a + k + j / 8 = a + (j + 8 * k) / 8 := by omega
    rw [e]
    congr 2; omega
  · rw [decide_eq_false (by omega : ¬ j < 8 * 1)]
    simp
end Go.Proofs.Ytolmcbnammhjjaa
