/- What is proved here: bytes put one by one, plainly. -/
import Derived.Test.YtolmcbnammhjjaaPoke
namespace Go.Proofs.Ytolmcbnammhjjaa
open Go.RowKit
set_option linter.unusedVariables false
theorem srt_ext : ∀ (A B : List (Nat × Int)), Srt A → Srt B → (∀ x, x ∈ A ↔ x ∈ B) → A = B
  | [], B, _, _, h => by
    cases B with
    | nil => rfl
    | cons b B => have := (h b).2 (by simp); simp at this
  | a :: A, B, hA, hB, h => by
    cases B with
    | nil => have := (h a).1 (by simp); simp at this
    | cons b B =>
      obtain ⟨a1, a2⟩ := List.pairwise_cons.1 hA
      obtain ⟨b1, b2⟩ := List.pairwise_cons.1 hB
      have e : a = b := by
        have q1 := (h a).1 (by simp)
        have q2 := (h b).2 (by simp)
        rcases List.mem_cons.1 q1 with q | q
        · exact q
        · rcases List.mem_cons.1 q2 with r | r
          · exact r.symm
          · have := b1 a q; have := a1 b r; omega
      subst e
      rw [srt_ext A B a2 b2 (fun x => ?_)]
      constructor
      · intro hx
        rcases List.mem_cons.1 ((h x).1 (List.mem_cons_of_mem _ hx)) with q | q
        · subst q; have := a1 x hx; omega
        · exact q
      · intro hx
        rcases List.mem_cons.1 ((h x).2 (List.mem_cons_of_mem _ hx)) with q | q
        · subst q; have := b1 x hx; omega
        · exact q
/-- Memories with the same words are the same. -/
theorem cells_ext {A B : List (Nat × Int)} (hA : Srt A) (hB : Srt B) (nA : ∀ x ∈ A, x.2 ≠ 0) (nB : ∀ x ∈ B, x.2 ≠ 0) (h : ∀ c, wordOf A c = wordOf B c) : A = B := by
  have one : ∀ {A B : List (Nat × Int)}, Srt A → Srt B → (∀ x ∈ A, x.2 ≠ 0) → (∀ c, wordOf A c = wordOf B c) → ∀ x, x ∈ A → x ∈ B := by
    intro A B hA hB nA h x hx
    have e := h x.1
    rw [wordOf_mem hA hx] at e
    have hne := nA x hx
    unfold wordOf at e
    split at e
    · rename_i y hy
      have h1 := List.mem_of_find?_eq_some hy
      have h2 := List.find?_some hy
      simp at h2
      have : x = y := Prod.ext h2.symm e
      rw [this]; exact h1
    · exact absurd e hne
  exact srt_ext A B hA hB (fun x => ⟨one hA hB nA h x, one hB hA nB (fun c => (h c).symm) x⟩)
theorem wordOf_bits {A B : List (Nat × Int)} (hA : Words A) (hB : Words B) {c : Nat} (h : ∀ i, i < 64 → (wordN A c).testBit i = (wordN B c).testBit i) : wordOf A c = wordOf B c := by
  rw [wordOf_eq A hA, wordOf_eq B hB]
  congr 1
  apply Nat.eq_of_testBit_eq
  intro i
  by_cases hi : i < 64
  · exact h i hi
  · rw [word_small (wordN_lt A hA c) (by omega), word_small (wordN_lt B hB c) (by omega)]
theorem wordOf_out {A : List (Nat × Int)} {c : Nat} (h : ∀ x ∈ A, x.1 % 8 = 0) (hc : c % 8 ≠ 0) : wordOf A c = 0 := wordOf_no (fun x hx e => hc (e ▸ h x hx))
theorem poke_mem {cs : List (Nat × Int)} {b wd : Nat} {x : Nat × Int} (h : x ∈ pokeL cs b wd) : x ∈ cs ∨ (x = (b, (wd : Int)) ∧ wd ≠ 0) := by
  rw [pokeL] at h
  rcases List.mem_append.1 h with h | h
  · rcases List.mem_append.1 h with h | h
    · exact Or.inl (lo_mem.1 h).1
    · exact Or.inr (cellIf_mem h)
  · exact Or.inl (hi_mem.1 h).1
theorem poke_srt {cs : List (Nat × Int)} (h : Srt cs) (b wd : Nat) : Srt (pokeL cs b wd) := by
  rw [pokeL]
  refine srt_join (srt_join (lo_srt h _) ?_ ?_) (hi_srt h _) ?_
  · unfold cellIf; split
    · exact List.Pairwise.nil
    · exact List.pairwise_singleton _ _
  · intro x hx y hy
    obtain ⟨e, _⟩ := cellIf_mem hy
    rw [e]; exact (lo_mem.1 hx).2
  · intro x hx y hy
    have q := (hi_mem.1 hy).2
    rcases List.mem_append.1 hx with g | g
    · have := (lo_mem.1 g).2; omega
    · obtain ⟨e, _⟩ := cellIf_mem g
      rw [e]; exact q
theorem poke_len (cs : List (Nat × Int)) (hs : Srt cs) (b wd : Nat) : (pokeL cs b wd).length ≤ cs.length + 1 := by
  have h := parts_len cs hs b b (Nat.le_refl _)
  have := cellIf_len b wd
  rw [pokeL]; simp; omega
theorem mul_bit (x i j : Nat) : (x * 2 ^ i).testBit j = (decide (i ≤ j) && x.testBit (j - i)) := Nat.testBit_mul_two_pow x j i
theorem bit255 (j : Nat) : (255 : Nat).testBit j = decide (j < 8) := by
  rw [show (255 : Nat) = 2 ^ 8 - 1 by rfl, Nat.testBit_two_pow_sub_one]
theorem byte_shift_lt {x r : Nat} (hx : x < 256) (hr : r < 8) : x * 2 ^ (8 * r) < 18446744073709551616 := by
  have h := pow_le r hr
  have : x * 2 ^ (8 * r) ≤ 255 * 2 ^ (8 * r) := Nat.mul_le_mul_right _ (by omega)
  omega
theorem pokeW_lt (cs : List (Nat × Int)) (hw : Words cs) (a bt : Nat) (hb : bt < 256) : pokeW cs a bt < 18446744073709551616 := by
  have h1 : clr (wordN cs (cellOf a)) (255 * 2 ^ (8 * (a % 8))) < 2 ^ 64 := Nat.lt_of_le_of_lt Nat.and_le_left (wordN_lt cs hw _)
  have h2 : bt * 2 ^ (8 * (a % 8)) < 2 ^ 64 := byte_shift_lt hb (Nat.mod_lt _ (by omega))
  exact Nat.or_lt_two_pow h1 h2
theorem poke_bit (cs : List (Nat × Int)) (hw : Words cs) (a bt c i : Nat) (hb : bt < 256) (hc : c % 8 = 0) (hi64 : i < 64) :
    (wordN (pokeL cs (cellOf a) (pokeW cs a bt)) c).testBit i = if c + i / 8 = a then bt.testBit (i % 8) else (wordN cs c).testBit i := by
  have f := cellOf_facts a
  have hP : ∀ x ∈ cellIf (cellOf a) (pokeW cs a bt), cellOf a ≤ x.1 ∧ x.1 ≤ cellOf a := by
    intro x hx
    obtain ⟨e, _⟩ := cellIf_mem hx
    rw [e]; exact ⟨Nat.le_refl _, Nat.le_refl _⟩
  have hword := wordOf_parts cs (cellIf (cellOf a) (pokeW cs a bt)) (cellOf a) (cellOf a) c hP
  rw [pokeL]
  by_cases hca : c = cellOf a
  · rw [if_neg (by omega), wordOf_if, if_pos hca] at hword
    rw [wordN_toNat hword, pokeW, Nat.testBit_or, clr_bit _ _ _ (byte_shift_lt (by omega) (Nat.mod_lt _ (by omega))), mul_bit, mul_bit, bit255, hca]
    have e : cellOf a + i / 8 = a ↔ i / 8 = a % 8 := by unfold cellOf; omega
    by_cases h : i / 8 = a % 8
    · rw [if_pos (e.2 h), decide_eq_true (by omega : 8 * (a % 8) ≤ i), decide_eq_true (by omega : i - 8 * (a % 8) < 8), decide_eq_true hi64]
      simp only [Bool.not_true, Bool.and_false, Bool.false_or, Bool.true_and]
      congr 1; omega
    · rw [if_neg (fun q => h (e.1 q)), decide_eq_true hi64]
      by_cases g : 8 * (a % 8) ≤ i
      · rw [decide_eq_true g, decide_eq_false (by omega : ¬ i - 8 * (a % 8) < 8), Nat.testBit_lt_two_pow (x := bt) (i := i - 8 * (a % 8)) (Nat.lt_of_lt_of_le hb (show 2 ^ 8 ≤ 2 ^ (i - 8 * (a % 8)) from Nat.pow_le_pow_right (by omega) (by omega)))]
        simp
      · rw [decide_eq_false g]; simp
  · rw [if_pos (by omega)] at hword
    rw [wordN, hword, if_neg (by unfold cellOf at *; omega)]
    rfl
/-- Bytes put one by one. -/
def pokes (cs : List (Nat × Int)) (a v : Nat) : Nat → List (Nat × Int)
  | 0 => cs
  | m + 1 => pokeL (pokes cs a v m) (cellOf (a + m)) (pokeW (pokes cs a v m) (a + m) (v / 256 ^ m % 256))
theorem pokes_facts {cs : List (Nat × Int)} (hs : Srt cs) (hw : Words cs) (a v : Nat) : ∀ m, Srt (pokes cs a v m) ∧ Words (pokes cs a v m) ∧ (pokes cs a v m).length ≤ cs.length + m
  | 0 => ⟨hs, hw, Nat.le_refl _⟩
  | m + 1 => by
    obtain ⟨h1, h2, h3⟩ := pokes_facts hs hw a v m
    refine ⟨poke_srt h1 _ _, ?_, ?_⟩
    · intro x hx
      rcases poke_mem hx with g | ⟨g, _⟩
      · exact h2 x g
      · have := pokeW_lt (pokes cs a v m) h2 (a + m) (v / 256 ^ m % 256) (Nat.mod_lt _ (by omega))
        rw [g]; exact ⟨by simp, by simp only; omega⟩
    · have := poke_len (pokes cs a v m) h1 (cellOf (a + m)) (pokeW (pokes cs a v m) (a + m) (v / 256 ^ m % 256))
      rw [pokes]; omega
theorem pokes_cells {cs : List (Nat × Int)} (h8 : ∀ x ∈ cs, x.1 % 8 = 0 ∧ x.2 ≠ 0) (a v : Nat) : ∀ m, ∀ x ∈ pokes cs a v m, x.1 % 8 = 0 ∧ x.2 ≠ 0
  | 0 => h8
  | m + 1 => by
    intro x hx
    rcases poke_mem hx with g | ⟨g, h0⟩
    · exact pokes_cells h8 a v m x g
    · rw [g]; exact ⟨(cellOf_facts _).1, by simpa using h0⟩
theorem pokes_bit {cs : List (Nat × Int)} (hs : Srt cs) (hw : Words cs) (a v c i : Nat) (hc : c % 8 = 0) (hi64 : i < 64) : ∀ m, m ≤ 8 → (wordN (pokes cs a v m) c).testBit i = if a ≤ c + i / 8 ∧ c + i / 8 < a + m then v.testBit (8 * (c + i / 8 - a) + i % 8) else (wordN cs c).testBit i
  | 0, _ => by rw [pokes, if_neg (by omega)]
  | m + 1, hm => by
    obtain ⟨h1, h2, h3⟩ := pokes_facts hs hw a v m
    have ih := pokes_bit hs hw a v c i hc hi64 m (by omega)
    rw [pokes, poke_bit _ h2 (a + m) _ c i (Nat.mod_lt _ (by omega)) hc hi64, ih]
    by_cases h : c + i / 8 = a + m
    · rw [if_pos h, if_pos (by omega), show (256 : Nat) = 2 ^ 8 by rfl, Nat.testBit_mod_two_pow, ← Nat.pow_mul, Nat.testBit_div_two_pow, decide_eq_true (by omega), Bool.true_and]
      congr 1; omega
    · rw [if_neg h]
      by_cases g : a ≤ c + i / 8 ∧ c + i / 8 < a + m
      · rw [if_pos g, if_pos (by omega)]
      · rw [if_neg g, if_neg (by omega)]
/-- Bytes put one by one are the number put. -/
theorem pokes_store {ms cs : List (Nat × Int)} (h : FitQ ms cs) (hw : Words cs) (hrc : ∀ y ∈ cs, y.1 < 18446744073709551616) (hfew : cs.length ≤ 65534) (a k v : Nat) (k1 : 1 ≤ k) (k8 : k ≤ 8) (hf : (faultFrom ms a 2 0 k).1 = 0) : pokes cs a v k = storeN cs a k v := by
  obtain ⟨q, w2, _⟩ := fit_store h hw hrc hfew a k v k1 hf
  obtain ⟨p1, p2, _⟩ := pokes_facts h.2.2.2.1 hw a v k
  have p3 := pokes_cells (fun x hx => ⟨(h.2.2.2.2.2 x hx).1, (h.2.2.2.2.2 x hx).2.1⟩) a v k
  refine cells_ext p1 q.2.2.2.1 (fun x hx => (p3 x hx).2) (fun x hx => (q.2.2.2.2.2 x hx).2.1) (fun c => ?_)
  by_cases hc : c % 8 = 0
  · refine wordOf_bits p2 w2 (fun i hi => ?_)
    rw [pokes_bit h.2.2.2.1 hw a v c i hc hi k k8, storeN_bit cs hw a k v c i k1 k8 hc hi]
  · rw [wordOf_out (fun x hx => (p3 x hx).1) hc, wordOf_out (fun x hx => (q.2.2.2.2.2 x hx).1) hc]
end Go.Proofs.Ytolmcbnammhjjaa
