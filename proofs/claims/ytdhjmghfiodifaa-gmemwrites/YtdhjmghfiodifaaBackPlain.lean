/- What is proved here: a memory's words, bit by bit: of what is loaded, of what was stored. -/
import Derived.Test.YtdhjmghfiodifaaPlain
import Derived.Test.YtdhjmghfiodifaaHeld
import Derived.Laws.StructEq
import Derived.Test.YtdhjmghfiodifaaCopied
import Derived.Test.YtdhjmghfiodifaaSmall
import Derived.Test.YtdhjmghfiodifaaSpan
import Derived.Test.YtdhjmghfiodifaaGw
namespace Go.Proofs.Ytdhjmghfiodifaa
open Go.RowKit
set_option maxRecDepth 100000
set_option linter.unusedVariables false
theorem find_lo (xs : List (Nat × Int)) (a c : Nat) : (lo xs a).find? (fun x => x.1 == c) = if c < a then xs.find? (fun x => x.1 == c) else none := by
  rw [lo, List.find?_filter]
  by_cases h : c < a
  · rw [if_pos h]
    congr 1; funext x
    by_cases e : x.1 = c
    · simp [e, h]
    · simp [e]
  · rw [if_neg h, List.find?_eq_none]
    intro x hx
    simp; omega
theorem find_hi (xs : List (Nat × Int)) (a c : Nat) : (hi xs a).find? (fun x => x.1 == c) = if a < c then xs.find? (fun x => x.1 == c) else none := by
  rw [hi, List.find?_filter]
  by_cases h : a < c
  · rw [if_pos h]
    congr 1; funext x
    by_cases e : x.1 = c
    · simp [e, h]
    · simp [e]
  · rw [if_neg h, List.find?_eq_none]
    intro x hx
    simp; omega
/-- The word of a memory of which the cells from a to b are others. -/
theorem wordOf_parts (cs P : List (Nat × Int)) (a b c : Nat) (hP : ∀ x ∈ P, a ≤ x.1 ∧ x.1 ≤ b) :
    wordOf (lo cs a ++ P ++ hi cs b) c = if c < a ∨ b < c then wordOf cs c else wordOf P c := by
  by_cases hab : a ≤ b
  · by_cases h : c < a ∨ b < c
    · rw [if_pos h, wordOf, List.find?_append, List.find?_append, find_lo, find_hi, find_none (xs := P) (p := c) (fun x hx => by have := hP x hx; omega), wordOf]
      rcases h with h | h
      · rw [if_pos h, if_neg (by omega)]
        cases cs.find? (fun x => x.1 == c) <;> rfl
      · rw [if_neg (by omega), if_pos h]
        cases cs.find? (fun x => x.1 == c) <;> rfl
    · rw [if_neg h, wordOf, List.find?_append, List.find?_append, find_lo, find_hi, if_neg (by omega), if_neg (by omega), wordOf]
      cases P.find? (fun x => x.1 == c) <;> rfl
  · have hn : P = [] := List.eq_nil_iff_forall_not_mem.2 (fun x hx => by have := hP x hx; omega)
    subst hn
    have h : c < a ∨ b < c := by omega
    rw [if_pos h, wordOf, List.find?_append, List.find?_append, find_lo, find_hi, wordOf]
    by_cases h1 : c < a
    · rw [if_pos h1]
      by_cases h2 : b < c
      · rw [if_pos h2]; cases cs.find? (fun x => x.1 == c) <;> rfl
      · rw [if_neg h2]; cases cs.find? (fun x => x.1 == c) <;> rfl
    · rw [if_neg h1, if_pos (by omega)]; cases cs.find? (fun x => x.1 == c) <;> rfl
theorem wordOf_if (a n c : Nat) : wordOf (cellIf a n) c = if c = a then (n : Int) else 0 := by
  unfold cellIf
  split
  · rename_i h; subst h; rw [wordOf]; simp
  · rw [wordOf]
    by_cases e : c = a
    · subst e; simp
    · rw [if_neg e]
      have : ([(a, (n : Int))].find? (fun x => x.1 == c)) = none := by simp; omega
      rw [this]
theorem nowN_bit (old mask v j : Nat) (hm : mask < 18446744073709551616) : (nowN old mask v).testBit j = ((old.testBit j && (decide (j < 64) && !mask.testBit j)) || (v.testBit j && mask.testBit j)) := by
  rw [nowN, Nat.testBit_or, clr_bit _ _ _ hm, Nat.testBit_and]
theorem word_small {n j : Nat} (h : n < 18446744073709551616) (hj : 64 ≤ j) : n.testBit j = false := Nat.testBit_lt_two_pow (Nat.lt_of_lt_of_le h (Nat.pow_le_pow_right (n := 2) (by decide) hj))
/-- What is loaded, bit by bit. -/
theorem loadN_bit (cs : List (Nat × Int)) (hw : Words cs) (a k j : Nat) (k1 : 1 ≤ k) (k8 : k ≤ 8) :
    (loadN cs a k).testBit j = (decide (j < 8 * k) && (wordN cs (cellOf (a + j / 8))).testBit (8 * ((a + j / 8) % 8) + j % 8)) := by
  obtain ⟨last, hl⟩ : ∃ last, last = a + k - 1 := ⟨_, rfl⟩
  have hlow : (lowPart cs a last).testBit j = ((wordN cs (cellOf a)).testBit (j + 8 * (a - cellOf a)) && decide (j + 8 * (a - cellOf a) < 8 * (min last (cellOf a + 7) - cellOf a) + 8)) := by
    have hc := cellOf_facts a
    rw [lowPart, Nat.testBit_div_two_pow, Nat.testBit_and, mask_bit _ _ _ (by omega) (by omega)]
    congr 1
    rw [Bool.eq_iff_iff]; simp; omega
  by_cases hh : cellOf last = cellOf a
  · rw [loadN, ← hl, if_pos hh, hlow]
    unfold cellOf at hh ⊢
    by_cases hj : j < 8 * k
    · have e1 : a + j / 8 - (a + j / 8) % 8 = a - a % 8 := by omega
      rw [e1, decide_eq_true hj, decide_eq_true (by omega), Bool.true_and, Bool.and_true]
      congr 1; omega
    · rw [decide_eq_false hj, Bool.false_and, decide_eq_false (by omega), Bool.and_false]
  · have hc := cellOf_facts a
    have hc2 := cellOf_facts last
    have hhigh : (highPart cs a last).testBit j = (decide (j < 64) && (decide (8 * (cellOf last - a) ≤ j) && ((wordN cs (cellOf last)).testBit (j - 8 * (cellOf last - a)) && decide (j - 8 * (cellOf last - a) < 8 * (last - cellOf last) + 8)))) := by
      rw [highPart, show (18446744073709551616 : Nat) = 2 ^ 64 by rfl, Nat.testBit_mod_two_pow, Nat.testBit_mul_two_pow, Nat.testBit_and, mask_bit _ _ _ (by omega) (by omega)]
      congr 3
      rw [Bool.eq_iff_iff]; simp; omega
    rw [loadN, ← hl, if_neg hh, Nat.testBit_or, hlow, hhigh]
    by_cases hj : j < 8 * k
    · rw [decide_eq_true hj, Bool.true_and]
      by_cases hs : a + j / 8 ≤ cellOf a + 7
      · have e1 : cellOf (a + j / 8) = cellOf a := by unfold cellOf at hs ⊢; omega
        rw [e1, decide_eq_true (by unfold cellOf at *; omega), Bool.and_true, decide_eq_false (by unfold cellOf at *; omega : ¬ 8 * (cellOf last - a) ≤ j), Bool.false_and, Bool.and_false, Bool.or_false]
        congr 1; unfold cellOf at *; omega
      · have e1 : cellOf (a + j / 8) = cellOf last := by unfold cellOf at hs hh ⊢; omega
        rw [e1, decide_eq_false (by unfold cellOf at *; omega), Bool.and_false, Bool.false_or, decide_eq_true (by omega), decide_eq_true (by unfold cellOf at *; omega), decide_eq_true (by unfold cellOf at *; omega)]
        simp only [Bool.true_and, Bool.and_true]
        congr 1; unfold cellOf at *; omega
    · rw [decide_eq_false hj, Bool.false_and]
      rw [decide_eq_false (by unfold cellOf at *; omega), Bool.and_false, Bool.false_or]
      by_cases g : 8 * (cellOf last - a) ≤ j
      · rw [decide_eq_false (by unfold cellOf at *; omega : ¬ j - 8 * (cellOf last - a) < 8 * (last - cellOf last) + 8)]; simp
      · rw [decide_eq_false g]; simp
theorem wordN_toNat {cs : List (Nat × Int)} {c n : Nat} (h : wordOf cs c = (n : Int)) : wordN cs c = n := by rw [wordN, h]; rfl
/-- The words of what was stored, bit by bit. -/
theorem storeN_bit (cs : List (Nat × Int)) (hw : Words cs) (a k v c i : Nat) (k1 : 1 ≤ k) (k8 : k ≤ 8) (hc : c % 8 = 0) (hi64 : i < 64) :
    (wordN (storeN cs a k v) c).testBit i = if a ≤ c + i / 8 ∧ c + i / 8 < a + k then v.testBit (8 * (c + i / 8 - a) + i % 8) else (wordN cs c).testBit i := by
  obtain ⟨last, hl⟩ : ∃ last, last = a + k - 1 := ⟨_, rfl⟩
  have f1 := cellOf_facts a
  have f2 := cellOf_facts last
  have hP : ∀ x ∈ putCells cs a last v, cellOf a ≤ x.1 ∧ x.1 ≤ cellOf last := by
    intro x hx
    have hm : ∀ c n, x ∈ cellIf c n → x.1 = c := by
      intro c n h
      unfold cellIf at h
      split at h
      · simp at h
      · simp at h; rw [h]
    rw [putCells] at hx
    rcases List.mem_append.1 hx with h | h
    · rw [hm _ _ h]; omega
    · split at h
      · simp at h
      · rw [hm _ _ h]; omega
  have hword := wordOf_parts cs (putCells cs a last v) (cellOf a) (cellOf last) c hP
  have hstore : storeN cs a k v = lo cs (cellOf a) ++ putCells cs a last v ++ hi cs (cellOf last) := by rw [storeN, hl]
  rw [← hstore] at hword
  by_cases hout : c < cellOf a ∨ cellOf last < c
  · rw [if_pos hout] at hword
    rw [wordN, hword, if_neg (by omega)]
    rfl
  · rw [if_neg hout] at hword
    by_cases hca : c = cellOf a
    · have e : wordOf (putCells cs a last v) c = ((nowN (wordN cs (cellOf a)) (maskOf (max a (cellOf a) - cellOf a) (min last (cellOf a + 7) - cellOf a)) (v * 2 ^ (8 * (a - cellOf a)) % 18446744073709551616) : Nat) : Int) := by
        rw [putCells]
        by_cases hn : nowN (wordN cs (cellOf a)) (maskOf (max a (cellOf a) - cellOf a) (min last (cellOf a + 7) - cellOf a)) (v * 2 ^ (8 * (a - cellOf a)) % 18446744073709551616) = 0
        · rw [hn]
          simp only [cellIf, if_true, List.nil_append]
          split
          · rw [wordOf]; simp
          · have := wordOf_if (cellOf last) (nowN (wordN cs (cellOf last)) (maskOf (max a (cellOf last) - cellOf last) (min last (cellOf last + 7) - cellOf last)) (v / 2 ^ (8 * (cellOf last - a)))) c
            rw [if_neg (by omega), cellIf] at this
            exact this
        · have e0 : cellIf (cellOf a) (nowN (wordN cs (cellOf a)) (maskOf (max a (cellOf a) - cellOf a) (min last (cellOf a + 7) - cellOf a)) (v * 2 ^ (8 * (a - cellOf a)) % 18446744073709551616)) = [(cellOf a, ((nowN (wordN cs (cellOf a)) (maskOf (max a (cellOf a) - cellOf a) (min last (cellOf a + 7) - cellOf a)) (v * 2 ^ (8 * (a - cellOf a)) % 18446744073709551616) : Nat) : Int))] := by rw [cellIf, if_neg hn]
          rw [e0, wordOf, hca]
          simp
      rw [e] at hword
      rw [wordN_toNat hword, nowN_bit _ _ _ _ (mask_lt _ _), mask_bit _ _ _ (by omega) (by omega), show (18446744073709551616 : Nat) = 2 ^ 64 by rfl, Nat.testBit_mod_two_pow, Nat.testBit_mul_two_pow, hca]
      by_cases hin : a ≤ cellOf a + i / 8 ∧ cellOf a + i / 8 < a + k
      · rw [if_pos hin, decide_eq_true (by omega : 8 * (max a (cellOf a) - cellOf a) ≤ i ∧ i < 8 * (min last (cellOf a + 7) - cellOf a) + 8), decide_eq_true hi64, decide_eq_true (by omega : 8 * (a - cellOf a) ≤ i)]
        simp only [Bool.not_true, Bool.and_false, Bool.false_or, Bool.true_and, Bool.and_true]
        congr 1; omega
      · rw [if_neg hin, decide_eq_false (by omega : ¬ (8 * (max a (cellOf a) - cellOf a) ≤ i ∧ i < 8 * (min last (cellOf a + 7) - cellOf a) + 8)), decide_eq_true hi64]
        simp
    · have hcl : c = cellOf last := by unfold cellOf at *; omega
      have hne : cellOf last ≠ cellOf a := by omega
      have e : wordOf (putCells cs a last v) c = ((nowN (wordN cs (cellOf last)) (maskOf (max a (cellOf last) - cellOf last) (min last (cellOf last + 7) - cellOf last)) (v / 2 ^ (8 * (cellOf last - a))) : Nat) : Int) := by
        rw [putCells, if_neg hne]
        have h1 := wordOf_if (cellOf last) (nowN (wordN cs (cellOf last)) (maskOf (max a (cellOf last) - cellOf last) (min last (cellOf last + 7) - cellOf last)) (v / 2 ^ (8 * (cellOf last - a)))) c
        rw [if_pos hcl] at h1
        rw [wordOf, List.find?_append, find_none (xs := cellIf (cellOf a) _) (p := c), Option.none_or, ← h1, wordOf]
        intro x hx
        unfold cellIf at hx
        split at hx
        · simp at hx
        · simp at hx; rw [hx]; simpa using fun e => hca e.symm
      rw [e] at hword
      rw [wordN_toNat hword, nowN_bit _ _ _ _ (mask_lt _ _), mask_bit _ _ _ (by omega) (by omega), Nat.testBit_div_two_pow, hcl]
      by_cases hin : a ≤ cellOf last + i / 8 ∧ cellOf last + i / 8 < a + k
      · rw [if_pos hin, decide_eq_true (by omega : 8 * (max a (cellOf last) - cellOf last) ≤ i ∧ i < 8 * (min last (cellOf last + 7) - cellOf last) + 8)]
        simp only [Bool.not_true, Bool.and_false, Bool.false_or, Bool.and_true]
        congr 1; unfold cellOf at *; omega
      · rw [if_neg hin, decide_eq_false (by unfold cellOf at *; omega : ¬ (8 * (max a (cellOf last) - cellOf last) ≤ i ∧ i < 8 * (min last (cellOf last + 7) - cellOf last) + 8)), decide_eq_true hi64]
        simp
end Go.Proofs.Ytdhjmghfiodifaa
namespace Go.Proofs.Ytdhjmghfiodifaa
open Go.RowKit
set_option maxRecDepth 100000
set_option linter.unusedVariables false
set_option maxHeartbeats 4000000 in
theorem rsame12 (vm vc vm' vc' : Value) (ms cs ms' cs' : List (Nat × Int)) (w : World) (hm : Sl .i64 w vm ms) (hc : Sl .u64 w vc cs) (hm' : Sl .i64 w vm' ms') (hc' : Sl .u64 w vc' cs') :
    Calls Try.prog 47 #[.agg #[vm, vc], .agg #[vm', vc']] w fun e w' => e = .returned (.bool (decide (ms = ms' ∧ cs = cs'))) ∧ Below w.heap.size w w' := by
  obtain ⟨X, hX, hx, hxs, c0, c1, _, _⟩ := box2 w vm vc 25
  obtain ⟨W, hW, hb, hsz, c2, c3, _, _⟩ := box2 X vm' vc' 25
  rw [hxs] at c2 c3
  have c0 := keep_cell hb c0
  have c1 := keep_cell hb c1
  have hb := below_tr hx hb
  obtain ⟨am, cm, rfl, x1, x2, _, x4⟩ := hm.keep hb
  obtain ⟨ac, cc, rfl, y1, y2, _, y4⟩ := hc.keep hb
  obtain ⟨am', cm', rfl, u1, u2, _, u4⟩ := hm'.keep hb
  obtain ⟨ac', cc', rfl, v1, v2, _, v4⟩ := hc'.keep hb
  have HXm : Hid _ := x4
  have HYm : Hid _ := u4
  have HXc : Hid _ := y4
  have HYc : Hid _ := v4
  clear x4 y4 u4 v4 hm hc hm' hc'
  by_cases hl1 : ms.length = ms'.length
  case neg =>
    have HR : Hid (decide (ms = ms' ∧ cs = cs') = false) := by
      have h : ¬ (ms = ms' ∧ cs = cs') := by rintro ⟨e, _⟩; subst e; exact hl1 rfl
      simp [Hid, h]
    have hl' : ((ms.length : Int) != (ms'.length : Int)) = true := by simp; omega
    clear HXm HYm HXc HYc
    go_enter Try.func47, Try.ntmps47
    go_wp2
    go_ret
    exact ⟨by rw [HR.out]; rfl, hb⟩
  by_cases hl2 : cs.length = cs'.length
  case neg =>
    have HR : Hid (decide (ms = ms' ∧ cs = cs') = false) := by
      have h : ¬ (ms = ms' ∧ cs = cs') := by rintro ⟨_, e⟩; subst e; exact hl2 rfl
      simp [Hid, h]
    have hl' : ((cs.length : Int) != (cs'.length : Int)) = true := by simp; omega
    rw [← hl1] at c2 hW ⊢
    clear HXm HYm HXc HYc hl1 hl2
    go_enter Try.func47, Try.ntmps47
    go_wp2
    go_ret
    exact ⟨by rw [HR.out]; rfl, hb⟩
  rw [← hl1] at u1 c2 hW ⊢
  rw [← hl2] at v1 c3 hW ⊢
  have HLm : Hid (ms.length = ms'.length) := hl1
  have HLc : Hid (cs.length = cs'.length) := hl2
  clear hl1 hl2
  go_enter Try.func47, Try.ntmps47
  go_wp2
  go_loopw [5] (fun i wr => ∃ k : Nat, k ≤ ms.length ∧ i = .int .i64 (k : Int) ∧ ms.take k = ms'.take k ∧ Below W.heap.size W wr) (fun i _ => ms.length - (intOf i).toNat)
  case atStart => exact ⟨0, Nat.zero_le _, rfl, rfl, Below.refl _ _⟩
  case round =>
    obtain ⟨k, hk, rfl, htk, hbr⟩ := hrel
    have HT : Hid (ms.take k = ms'.take k) := htk
    clear htk
    have hbw := below_tr hb hbr
    have z0 := keep_cell hbr c0
    have z1 := keep_cell hbr c1
    have z2 := keep_cell hbr c2
    have z3 := keep_cell hbr c3
    by_cases hkl : k < ms.length
    · have hkl' : k < ms'.length := by rw [← HLm.out]; exact hkl
      obtain ⟨b, o, rfl, d0, d1⟩ := HXm.out k hkl
      obtain ⟨b', o', rfl, d0', d1'⟩ := HYm.out k hkl'
      have e0 := keep_cell hbr d0
      have e1 := keep_cell hbr d1
      have e0' := keep_cell hbr d0'
      have e1' := keep_cell hbr d1'
      clear d0 d1 d0' d1'
      by_cases he : ms[k] = ms'[k]'(by rw [← HLm.out]; exact hkl)
      · have HR : Hid (ms.take (k + 1) = ms'.take (k + 1)) := by
          rw [List.take_add_one, List.take_add_one, HT.out, List.getElem?_eq_getElem hkl, List.getElem?_eq_getElem (by rw [← HLm.out]; exact hkl), he]; rfl
        rw [← he] at e0' e1'
        obtain ⟨p, hp⟩ : ∃ p, p = ms[k].1 := ⟨_, rfl⟩
        obtain ⟨r, hr⟩ : ∃ r, r = ms[k].2 := ⟨_, rfl⟩
        rw [← hp] at e0 e0'
        rw [← hr] at e1 e1'
        clear he hp hr
        go_wp2
        go_region_held3 (fun w' => Below w.heap.size w w' ∧ w'.cell? ⟨w.heap.size, 0, none⟩ = some (.slice (some ⟨b, o, none⟩) ms.length cm) ∧ w'.cell? ⟨w.heap.size + 1, 0, none⟩ = some (.slice (some ⟨b', o', none⟩) ms.length cm') ∧ w'.cell? ⟨b, o + k * 2, none⟩ = some (.int .u64 (p : Int)) ∧ w'.cell? ⟨b, o + k * 2 + 1, none⟩ = some (.int .i64 r) ∧ w'.cell? ⟨b', o' + k * 2, none⟩ = some (.int .u64 (p : Int)) ∧ w'.cell? ⟨b', o' + k * 2 + 1, none⟩ = some (.int .i64 r)) (refine ⟨?_, ?_, ?_, ?_, ?_, ?_, ?_⟩ <;> first | (with_reducible refine Free.cell ?_; (repeat (first | with_reducible assumption | with_reducible refine Free.drew ?_ | with_reducible refine Free.alloc ?_ _ | with_reducible refine Free.set ?_ _ _ | with_reducible refine Free.keep (by with_reducible assumption) ?_)); done) | (with_reducible refine Free.frozen ?_; (repeat (first | with_reducible assumption | with_reducible refine Free.drew ?_ | with_reducible refine Free.alloc ?_ _ | with_reducible refine Free.set ?_ _ _ | with_reducible refine Free.keep (by with_reducible assumption) ?_)); done) | ((repeat (first | with_reducible assumption | with_reducible exact Below.refl _ _ | with_reducible refine Below.drew ?_ | with_reducible refine below_alloc ?_ _ | (with_reducible refine below_set ?_ ?_ _; rotate_left; focus (first | (simp; done) | (simp; omega))) | with_reducible refine below_tr ?_ (by with_reducible assumption))); done) | ((repeat (first | with_reducible assumption | with_reducible refine cell_drew ?_ | (with_reducible refine cell_newA _ _ _ _ _ _ ?_ rfl; (simp [*]; done)) | with_reducible refine cell_old ?_ _ | (with_reducible refine cell_far ?_ ?_ _; rotate_left; focus (first | (simp; done) | (simp; omega))) | with_reducible refine keep_cell (by with_reducible assumption) ?_)); done)) (fail)
        all_goals go_wp2
        go_roundw
        case rel => exact ⟨k + 1, by omega, by go_num, HR.out, (by (repeat (first | with_reducible assumption | with_reducible exact Below.refl _ _ | with_reducible refine Below.drew ?_ | with_reducible refine below_alloc ?_ _ | (with_reducible refine below_set ?_ ?_ _; rotate_left; focus (first | (simp; done) | (simp; omega))) | with_reducible refine below_tr ?_ (by with_reducible assumption))))⟩
        case measure => simp [intOf]; omega
      · have HR : Hid (decide (ms = ms' ∧ cs = cs') = false) := by
          have h : ¬ (ms = ms' ∧ cs = cs') := by rintro ⟨q1, q2⟩; subst q1; subst q2; exact he rfl
          simp [Hid, h]
        obtain ⟨p, hp⟩ : ∃ p, p = ms[k].1 := ⟨_, rfl⟩
        obtain ⟨r, hr⟩ : ∃ r, r = ms[k].2 := ⟨_, rfl⟩
        obtain ⟨p', hp'⟩ : ∃ p, p = (ms'[k]'(by rw [← HLm.out]; exact hkl)).1 := ⟨_, rfl⟩
        obtain ⟨r', hr'⟩ : ∃ r, r = (ms'[k]'(by rw [← HLm.out]; exact hkl)).2 := ⟨_, rfl⟩
        have hne : p = p' → ¬ r = r' := by
          rintro h1 h2
          exact he (Prod.ext (by rw [← hp, ← hp', h1]) (by rw [← hr, ← hr', h2]))
        rw [← hp] at e0
        rw [← hr] at e1
        rw [← hp'] at e0'
        rw [← hr'] at e1'
        clear he hp hr hp' hr'
        rcases (show ¬ ((p : Int) = (p' : Int)) ∨ (p = p' ∧ ¬ r = r') by
          by_cases e : p = p'
          · exact Or.inr ⟨e, hne e⟩
          · exact Or.inl (by omega)) with hq | ⟨rfl, hq⟩
        · clear hne
          go_wp2
          go_region_held3 (fun w' => Below w.heap.size w w' ∧ w'.cell? ⟨w.heap.size, 0, none⟩ = some (.slice (some ⟨b, o, none⟩) ms.length cm) ∧ w'.cell? ⟨w.heap.size + 1, 0, none⟩ = some (.slice (some ⟨b', o', none⟩) ms.length cm') ∧ w'.cell? ⟨b, o + k * 2, none⟩ = some (.int .u64 (p : Int)) ∧ w'.cell? ⟨b, o + k * 2 + 1, none⟩ = some (.int .i64 r) ∧ w'.cell? ⟨b', o' + k * 2, none⟩ = some (.int .u64 (p' : Int)) ∧ w'.cell? ⟨b', o' + k * 2 + 1, none⟩ = some (.int .i64 r')) (refine ⟨?_, ?_, ?_, ?_, ?_, ?_, ?_⟩ <;> first | (with_reducible refine Free.cell ?_; (repeat (first | with_reducible assumption | with_reducible refine Free.drew ?_ | with_reducible refine Free.alloc ?_ _ | with_reducible refine Free.set ?_ _ _ | with_reducible refine Free.keep (by with_reducible assumption) ?_)); done) | (with_reducible refine Free.frozen ?_; (repeat (first | with_reducible assumption | with_reducible refine Free.drew ?_ | with_reducible refine Free.alloc ?_ _ | with_reducible refine Free.set ?_ _ _ | with_reducible refine Free.keep (by with_reducible assumption) ?_)); done) | ((repeat (first | with_reducible assumption | with_reducible exact Below.refl _ _ | with_reducible refine Below.drew ?_ | with_reducible refine below_alloc ?_ _ | (with_reducible refine below_set ?_ ?_ _; rotate_left; focus (first | (simp; done) | (simp; omega))) | with_reducible refine below_tr ?_ (by with_reducible assumption))); done) | ((repeat (first | with_reducible assumption | with_reducible refine cell_drew ?_ | (with_reducible refine cell_newA _ _ _ _ _ _ ?_ rfl; (simp [*]; done)) | with_reducible refine cell_old ?_ _ | (with_reducible refine cell_far ?_ ?_ _; rotate_left; focus (first | (simp; done) | (simp; omega))) | with_reducible refine keep_cell (by with_reducible assumption) ?_)); done)) (fail)
          all_goals go_wp2
          all_goals go_ret
          all_goals exact ⟨by rw [HR.out]; rfl, (by (repeat (first | with_reducible assumption | with_reducible exact Below.refl _ _ | with_reducible refine Below.drew ?_ | with_reducible refine below_alloc ?_ _ | (with_reducible refine below_set ?_ ?_ _; rotate_left; focus (first | (simp; done) | (simp; omega))) | with_reducible refine below_tr ?_ (by with_reducible assumption))))⟩
        · clear hne
          go_wp2
          go_region_held3 (fun w' => Below w.heap.size w w' ∧ w'.cell? ⟨w.heap.size, 0, none⟩ = some (.slice (some ⟨b, o, none⟩) ms.length cm) ∧ w'.cell? ⟨w.heap.size + 1, 0, none⟩ = some (.slice (some ⟨b', o', none⟩) ms.length cm') ∧ w'.cell? ⟨b, o + k * 2, none⟩ = some (.int .u64 (p : Int)) ∧ w'.cell? ⟨b, o + k * 2 + 1, none⟩ = some (.int .i64 r) ∧ w'.cell? ⟨b', o' + k * 2, none⟩ = some (.int .u64 (p : Int)) ∧ w'.cell? ⟨b', o' + k * 2 + 1, none⟩ = some (.int .i64 r')) (refine ⟨?_, ?_, ?_, ?_, ?_, ?_, ?_⟩ <;> first | (with_reducible refine Free.cell ?_; (repeat (first | with_reducible assumption | with_reducible refine Free.drew ?_ | with_reducible refine Free.alloc ?_ _ | with_reducible refine Free.set ?_ _ _ | with_reducible refine Free.keep (by with_reducible assumption) ?_)); done) | (with_reducible refine Free.frozen ?_; (repeat (first | with_reducible assumption | with_reducible refine Free.drew ?_ | with_reducible refine Free.alloc ?_ _ | with_reducible refine Free.set ?_ _ _ | with_reducible refine Free.keep (by with_reducible assumption) ?_)); done) | ((repeat (first | with_reducible assumption | with_reducible exact Below.refl _ _ | with_reducible refine Below.drew ?_ | with_reducible refine below_alloc ?_ _ | (with_reducible refine below_set ?_ ?_ _; rotate_left; focus (first | (simp; done) | (simp; omega))) | with_reducible refine below_tr ?_ (by with_reducible assumption))); done) | ((repeat (first | with_reducible assumption | with_reducible refine cell_drew ?_ | (with_reducible refine cell_newA _ _ _ _ _ _ ?_ rfl; (simp [*]; done)) | with_reducible refine cell_old ?_ _ | (with_reducible refine cell_far ?_ ?_ _; rotate_left; focus (first | (simp; done) | (simp; omega))) | with_reducible refine keep_cell (by with_reducible assumption) ?_)); done)) (fail)
          all_goals go_wp2
          all_goals go_ret
          all_goals exact ⟨by rw [HR.out]; rfl, (by (repeat (first | with_reducible assumption | with_reducible exact Below.refl _ _ | with_reducible refine Below.drew ?_ | with_reducible refine below_alloc ?_ _ | (with_reducible refine below_set ?_ ?_ _; rotate_left; focus (first | (simp; done) | (simp; omega))) | with_reducible refine below_tr ?_ (by with_reducible assumption))))⟩
    · have HE0 : Hid (ms = ms') := by
        have := HT.out
        rwa [List.take_of_length_le (by omega), List.take_of_length_le (by rw [← HLm.out]; omega)] at this
      go_wp2
      go_loopw [6] (fun i wr => ∃ k : Nat, k ≤ cs.length ∧ i = .int .i64 (k : Int) ∧ cs.take k = cs'.take k ∧ Below W.heap.size W wr) (fun i _ => cs.length - (intOf i).toNat)
      case atStart => exact ⟨0, Nat.zero_le _, rfl, rfl, hbr⟩
      case round =>
        clear hbw z0 z1 z2 z3 HT hkl hk hbr
        obtain ⟨k, hk, rfl, htk, hbr⟩ := hrel
        rename_i wr'
        have HT : Hid (cs.take k = cs'.take k) := htk
        clear htk
        have hbw := below_tr hb hbr
        have z0 := keep_cell hbr c0
        have z1 := keep_cell hbr c1
        have z2 := keep_cell hbr c2
        have z3 := keep_cell hbr c3
        by_cases hkl : k < cs.length
        · have hkl' : k < cs'.length := by rw [← HLc.out]; exact hkl
          obtain ⟨b, o, rfl, d0, d1⟩ := HXc.out k hkl
          obtain ⟨b', o', rfl, d0', d1'⟩ := HYc.out k hkl'
          have e0 := keep_cell hbr d0
          have e1 := keep_cell hbr d1
          have e0' := keep_cell hbr d0'
          have e1' := keep_cell hbr d1'
          clear d0 d1 d0' d1'
          by_cases he : cs[k] = cs'[k]'(by rw [← HLc.out]; exact hkl)
          · have HR : Hid (cs.take (k + 1) = cs'.take (k + 1)) := by
              rw [List.take_add_one, List.take_add_one, HT.out, List.getElem?_eq_getElem hkl, List.getElem?_eq_getElem (by rw [← HLc.out]; exact hkl), he]; rfl
            rw [← he] at e0' e1'
            obtain ⟨p, hp⟩ : ∃ p, p = cs[k].1 := ⟨_, rfl⟩
            obtain ⟨r, hr⟩ : ∃ r, r = cs[k].2 := ⟨_, rfl⟩
            rw [← hp] at e0 e0'
            rw [← hr] at e1 e1'
            clear he hp hr
            go_wp2
            go_region_held3 (fun w' => Below w.heap.size w w' ∧ w'.cell? ⟨w.heap.size, 1, none⟩ = some (.slice (some ⟨b, o, none⟩) cs.length cc) ∧ w'.cell? ⟨w.heap.size + 1, 1, none⟩ = some (.slice (some ⟨b', o', none⟩) cs.length cc') ∧ w'.cell? ⟨b, o + k * 2, none⟩ = some (.int .u64 (p : Int)) ∧ w'.cell? ⟨b, o + k * 2 + 1, none⟩ = some (.int .u64 r) ∧ w'.cell? ⟨b', o' + k * 2, none⟩ = some (.int .u64 (p : Int)) ∧ w'.cell? ⟨b', o' + k * 2 + 1, none⟩ = some (.int .u64 r)) (refine ⟨?_, ?_, ?_, ?_, ?_, ?_, ?_⟩ <;> first | (with_reducible refine Free.cell ?_; (repeat (first | with_reducible assumption | with_reducible refine Free.drew ?_ | with_reducible refine Free.alloc ?_ _ | with_reducible refine Free.set ?_ _ _ | with_reducible refine Free.keep (by with_reducible assumption) ?_)); done) | (with_reducible refine Free.frozen ?_; (repeat (first | with_reducible assumption | with_reducible refine Free.drew ?_ | with_reducible refine Free.alloc ?_ _ | with_reducible refine Free.set ?_ _ _ | with_reducible refine Free.keep (by with_reducible assumption) ?_)); done) | ((repeat (first | with_reducible assumption | with_reducible exact Below.refl _ _ | with_reducible refine Below.drew ?_ | with_reducible refine below_alloc ?_ _ | (with_reducible refine below_set ?_ ?_ _; rotate_left; focus (first | (simp; done) | (simp; omega))) | with_reducible refine below_tr ?_ (by with_reducible assumption))); done) | ((repeat (first | with_reducible assumption | with_reducible refine cell_drew ?_ | (with_reducible refine cell_newA _ _ _ _ _ _ ?_ rfl; (simp [*]; done)) | with_reducible refine cell_old ?_ _ | (with_reducible refine cell_far ?_ ?_ _; rotate_left; focus (first | (simp; done) | (simp; omega))) | with_reducible refine keep_cell (by with_reducible assumption) ?_)); done)) (fail)
            all_goals go_wp2
            go_roundw
            case rel => exact ⟨k + 1, by omega, by go_num, HR.out, (by (repeat (first | with_reducible assumption | with_reducible exact Below.refl _ _ | with_reducible refine Below.drew ?_ | with_reducible refine below_alloc ?_ _ | (with_reducible refine below_set ?_ ?_ _; rotate_left; focus (first | (simp; done) | (simp; omega))) | with_reducible refine below_tr ?_ (by with_reducible assumption))))⟩
            case measure => simp [intOf]; omega
          · have HR : Hid (decide (ms = ms' ∧ cs = cs') = false) := by
              have h : ¬ (ms = ms' ∧ cs = cs') := by rintro ⟨q1, q2⟩; subst q1; subst q2; exact he rfl
              simp [Hid, h]
            obtain ⟨p, hp⟩ : ∃ p, p = cs[k].1 := ⟨_, rfl⟩
            obtain ⟨r, hr⟩ : ∃ r, r = cs[k].2 := ⟨_, rfl⟩
            obtain ⟨p', hp'⟩ : ∃ p, p = (cs'[k]'(by rw [← HLc.out]; exact hkl)).1 := ⟨_, rfl⟩
            obtain ⟨r', hr'⟩ : ∃ r, r = (cs'[k]'(by rw [← HLc.out]; exact hkl)).2 := ⟨_, rfl⟩
            have hne : p = p' → ¬ r = r' := by
              rintro h1 h2
              exact he (Prod.ext (by rw [← hp, ← hp', h1]) (by rw [← hr, ← hr', h2]))
            rw [← hp] at e0
            rw [← hr] at e1
            rw [← hp'] at e0'
            rw [← hr'] at e1'
            clear he hp hr hp' hr'
            rcases (show ¬ ((p : Int) = (p' : Int)) ∨ (p = p' ∧ ¬ r = r') by
              by_cases e : p = p'
              · exact Or.inr ⟨e, hne e⟩
              · exact Or.inl (by omega)) with hq | ⟨rfl, hq⟩
            · clear hne
              go_wp2
              go_region_held3 (fun w' => Below w.heap.size w w' ∧ w'.cell? ⟨w.heap.size, 1, none⟩ = some (.slice (some ⟨b, o, none⟩) cs.length cc) ∧ w'.cell? ⟨w.heap.size + 1, 1, none⟩ = some (.slice (some ⟨b', o', none⟩) cs.length cc') ∧ w'.cell? ⟨b, o + k * 2, none⟩ = some (.int .u64 (p : Int)) ∧ w'.cell? ⟨b, o + k * 2 + 1, none⟩ = some (.int .u64 r) ∧ w'.cell? ⟨b', o' + k * 2, none⟩ = some (.int .u64 (p' : Int)) ∧ w'.cell? ⟨b', o' + k * 2 + 1, none⟩ = some (.int .u64 r')) (refine ⟨?_, ?_, ?_, ?_, ?_, ?_, ?_⟩ <;> first | (with_reducible refine Free.cell ?_; (repeat (first | with_reducible assumption | with_reducible refine Free.drew ?_ | with_reducible refine Free.alloc ?_ _ | with_reducible refine Free.set ?_ _ _ | with_reducible refine Free.keep (by with_reducible assumption) ?_)); done) | (with_reducible refine Free.frozen ?_; (repeat (first | with_reducible assumption | with_reducible refine Free.drew ?_ | with_reducible refine Free.alloc ?_ _ | with_reducible refine Free.set ?_ _ _ | with_reducible refine Free.keep (by with_reducible assumption) ?_)); done) | ((repeat (first | with_reducible assumption | with_reducible exact Below.refl _ _ | with_reducible refine Below.drew ?_ | with_reducible refine below_alloc ?_ _ | (with_reducible refine below_set ?_ ?_ _; rotate_left; focus (first | (simp; done) | (simp; omega))) | with_reducible refine below_tr ?_ (by with_reducible assumption))); done) | ((repeat (first | with_reducible assumption | with_reducible refine cell_drew ?_ | (with_reducible refine cell_newA _ _ _ _ _ _ ?_ rfl; (simp [*]; done)) | with_reducible refine cell_old ?_ _ | (with_reducible refine cell_far ?_ ?_ _; rotate_left; focus (first | (simp; done) | (simp; omega))) | with_reducible refine keep_cell (by with_reducible assumption) ?_)); done)) (fail)
              all_goals go_wp2
              all_goals go_ret
              all_goals exact ⟨by rw [HR.out]; rfl, (by (repeat (first | with_reducible assumption | with_reducible exact Below.refl _ _ | with_reducible refine Below.drew ?_ | with_reducible refine below_alloc ?_ _ | (with_reducible refine below_set ?_ ?_ _; rotate_left; focus (first | (simp; done) | (simp; omega))) | with_reducible refine below_tr ?_ (by with_reducible assumption))))⟩
            · clear hne
              go_wp2
              go_region_held3 (fun w' => Below w.heap.size w w' ∧ w'.cell? ⟨w.heap.size, 1, none⟩ = some (.slice (some ⟨b, o, none⟩) cs.length cc) ∧ w'.cell? ⟨w.heap.size + 1, 1, none⟩ = some (.slice (some ⟨b', o', none⟩) cs.length cc') ∧ w'.cell? ⟨b, o + k * 2, none⟩ = some (.int .u64 (p : Int)) ∧ w'.cell? ⟨b, o + k * 2 + 1, none⟩ = some (.int .u64 r) ∧ w'.cell? ⟨b', o' + k * 2, none⟩ = some (.int .u64 (p : Int)) ∧ w'.cell? ⟨b', o' + k * 2 + 1, none⟩ = some (.int .u64 r')) (refine ⟨?_, ?_, ?_, ?_, ?_, ?_, ?_⟩ <;> first | (with_reducible refine Free.cell ?_; (repeat (first | with_reducible assumption | with_reducible refine Free.drew ?_ | with_reducible refine Free.alloc ?_ _ | with_reducible refine Free.set ?_ _ _ | with_reducible refine Free.keep (by with_reducible assumption) ?_)); done) | (with_reducible refine Free.frozen ?_; (repeat (first | with_reducible assumption | with_reducible refine Free.drew ?_ | with_reducible refine Free.alloc ?_ _ | with_reducible refine Free.set ?_ _ _ | with_reducible refine Free.keep (by with_reducible assumption) ?_)); done) | ((repeat (first | with_reducible assumption | with_reducible exact Below.refl _ _ | with_reducible refine Below.drew ?_ | with_reducible refine below_alloc ?_ _ | (with_reducible refine below_set ?_ ?_ _; rotate_left; focus (first | (simp; done) | (simp; omega))) | with_reducible refine below_tr ?_ (by with_reducible assumption))); done) | ((repeat (first | with_reducible assumption | with_reducible refine cell_drew ?_ | (with_reducible refine cell_newA _ _ _ _ _ _ ?_ rfl; (simp [*]; done)) | with_reducible refine cell_old ?_ _ | (with_reducible refine cell_far ?_ ?_ _; rotate_left; focus (first | (simp; done) | (simp; omega))) | with_reducible refine keep_cell (by with_reducible assumption) ?_)); done)) (fail)
              all_goals go_wp2
              all_goals go_ret
              all_goals exact ⟨by rw [HR.out]; rfl, (by (repeat (first | with_reducible assumption | with_reducible exact Below.refl _ _ | with_reducible refine Below.drew ?_ | with_reducible refine below_alloc ?_ _ | (with_reducible refine below_set ?_ ?_ _; rotate_left; focus (first | (simp; done) | (simp; omega))) | with_reducible refine below_tr ?_ (by with_reducible assumption))))⟩
        · have HE1 : Hid (cs = cs') := by
            have := HT.out
            rwa [List.take_of_length_le (by omega), List.take_of_length_le (by rw [← HLc.out]; omega)] at this
          have HR : Hid (decide (ms = ms' ∧ cs = cs') = true) := by
            have h : ms = ms' ∧ cs = cs' := ⟨HE0.out, HE1.out⟩
            simp [Hid, h]
          go_wp2
          go_ret
          exact ⟨by rw [HR.out]; rfl, hbw⟩

end Go.Proofs.Ytdhjmghfiodifaa
namespace Go.Proofs.Ytdhjmghfiodifaa
open Go.RowKit
set_option maxRecDepth 100000
set_option linter.unusedVariables false
/-- Pages of which those among n from page on have another prot. -/
def protX (page last : Nat) (prot : Int) (x : Nat × Int) : Nat × Int := if page ≤ x.1 ∧ x.1 ≤ last then (x.1, prot) else x
def protL (page last : Nat) (prot : Int) (xs : List (Nat × Int)) : List (Nat × Int) := xs.map (protX page last prot)
theorem protL_snoc (page last : Nat) (prot : Int) (xs : List (Nat × Int)) (m : Nat) (h : m < xs.length) : protL page last prot (xs.take (m + 1)) = protL page last prot (xs.take m) ++ [protX page last prot xs[m]] := by
  rw [protL, List.take_add_one, List.getElem?_eq_getElem h, List.map_append]; rfl
theorem midL_snoc (page last : Nat) (xs : List (Nat × Int)) (m : Nat) (h : m < xs.length) : (mid (xs.take (m + 1)) page last).length = (mid (xs.take m) page last).length + (if page ≤ xs[m].1 ∧ xs[m].1 ≤ last then 1 else 0) := by
  rw [mid, List.take_add_one, List.getElem?_eq_getElem h, List.filter_append, List.length_append]
  congr 1
  by_cases c : page ≤ xs[m].1 ∧ xs[m].1 ≤ last <;> simp [c]
theorem protL_eq {xs : List (Nat × Int)} (h : Srt xs) {page last : Nat} (prot : Int) (hl : page ≤ last) : protL page last prot xs = lo xs page ++ (mid xs page last).map (fun x => (x.1, prot)) ++ hi xs last := by
  have e := congrArg (protL page last prot) (parts xs h page last hl)
  rw [e]
  have e1 : (lo xs page).map (protX page last prot) = lo xs page := by
    conv => rhs; rw [← List.map_id (lo xs page)]
    exact List.map_congr_left (fun x hx => by have := (lo_mem.1 hx).2; rw [protX, if_neg (by omega)]; rfl)
  have e2 : (mid xs page last).map (protX page last prot) = (mid xs page last).map (fun x => (x.1, prot)) := List.map_congr_left (fun x hx => by have := (mid_mem.1 hx).2; rw [protX, if_pos (by omega)])
  have e3 : (hi xs last).map (protX page last prot) = hi xs last := by
    conv => rhs; rw [← List.map_id (hi xs last)]
    exact List.map_congr_left (fun x hx => by have := (hi_mem.1 hx).2; rw [protX, if_neg (by omega)]; rfl)
  rw [protL, List.map_append, List.map_append, e1, e2, e3]
end Go.Proofs.Ytdhjmghfiodifaa
namespace Go.Proofs.Ytdhjmghfiodifaa
open Go.RowKit
set_option linter.unusedVariables false
end Go.Proofs.Ytdhjmghfiodifaa
namespace Go.Proofs.Ytdhjmghfiodifaa
open Go.RowKit
set_option maxRecDepth 100000
set_option linter.unusedVariables false
/-- A byte. -/
def peekN (cs : List (Nat × Int)) (a : Nat) : Nat := wordN cs (cellOf a) / 2 ^ (8 * (a % 8)) % 256
set_option maxHeartbeats 1000000 in
theorem peek26 (vm vc : Value) (cs : List (Nat × Int)) (a : Nat) (w : World) (hm : ∃ x n q, vm = .slice x n q) (hc : Sl .u64 w vc cs) (hw : Words cs) (ha : a < 18446744073709551616) :
    Calls Try.prog 27 #[.agg #[vm, vc], .int .u64 (a : Int)] w fun e w' => e = .returned (.int .u8 ((peekN cs a : Nat) : Int)) ∧ Below w.heap.size w w' := by
  obtain ⟨W, hW, hb, hsz, c0, c1, _, _⟩ := box2 w vm vc 25
  obtain ⟨c, hcc⟩ : ∃ c, c = cellOf a := ⟨_, rfl⟩
  obtain ⟨r, hr⟩ : ∃ r, r = a % 8 := ⟨_, rfl⟩
  have K54 : Hid (Calls Try.prog 52 #[.agg #[vm, vc], .int .u64 (c : Int)] W fun e w'' => e = .returned (.int .u64 ((wordN cs c : Nat) : Int)) ∧ Below W.heap.size W w'') := by
    have h := word54 vc vm cs c W (hc.keep hb) hm
    rw [wordOf_eq cs hw] at h
    exact h
  have hwl := wordN_lt cs hw c
  have HP : Hid (peekN cs a = wordN cs c / 2 ^ (8 * r) % 256) := by show _ = _; rw [peekN, hcc, hr]
  obtain ⟨x, n, q, rfl⟩ := hm
  obtain ⟨x', n', q', rfl⟩ : ∃ a n p, vc = .slice a n p := by obtain ⟨a, p, h, _⟩ := hc; exact ⟨_, _, _, h⟩
  generalize wordN cs c = wd at K54 hwl HP
  have x1 : ((a : Int)).tmod 8 = (r : Int) := by rw [Int.tmod_eq_emod_of_nonneg (by omega)]; omega
  have x2 : IntKind.u64.wrap ((a : Int) - (r : Int)) = (c : Int) := by rw [IntKind.wrap_u64, hcc]; unfold cellOf; omega
  have x3 : IntKind.u64.wrap (8 * (r : Int)) = ((8 * r : Nat) : Int) := by rw [IntKind.wrap_u64]; omega
  obtain ⟨s8, hs8⟩ : ∃ s, s = 8 * r := ⟨_, rfl⟩
  rw [← hs8] at x3
  have x4 : (wd : Int) / 2 ^ min s8 64 = ((wd / 2 ^ s8 : Nat) : Int) := shr64 wd s8 (by omega)
  obtain ⟨q8, hq8⟩ : ∃ s, s = wd / 2 ^ s8 := ⟨_, rfl⟩
  rw [← hq8] at x4
  have x5 : IntKind.u8.wrap (q8 : Int) = ((q8 % 256 : Nat) : Int) := by rw [IntKind.wrap_u8]; omega
  obtain ⟨p8, hp8⟩ : ∃ s, s = q8 % 256 := ⟨_, rfl⟩
  rw [← hp8] at x5
  have HR : Hid (peekN cs a = p8) := by show _ = _; rw [HP.out, hp8, hq8, hs8]
  clear hc ha hcc hr hwl HP hs8 hq8 hp8
  go_enter Try.func27, Try.ntmps27
  go_wp2_with fail
  refine K54.out.mono ?_
  rintro e w1 ⟨rfl, hb1⟩
  go_wp2
  go_ret
  exact ⟨by rw [HR.out]; first | rfl | simp, below_tr hb hb1⟩
end Go.Proofs.Ytdhjmghfiodifaa
namespace Go.Proofs.Ytdhjmghfiodifaa
open Go.RowKit
set_option maxRecDepth 100000
set_option linter.unusedVariables false
/-- What is loaded, or 0. -/
def loadV (ms cs : List (Nat × Int)) (a k : Nat) : Nat := if (faultFrom ms a 1 0 k).1 = 0 then loadN cs a k else 0
/-- What Store leaves. -/
def storeV (ms cs : List (Nat × Int)) (a k v : Nat) : List (Nat × Int) := if (faultFrom ms a 2 0 k).1 = 0 then storeN cs a k v else cs
theorem faultK_page {ms : List (Nat × Int)} {a j : Nat} {need : Int} (h : faultK ms a j need = 0) : ∃ x ∈ ms, x.1 = (a + j) / 16384 := by
  have hl := faultK_lt ms a j need h
  unfold faultK at h
  split at h
  · simp at h
  · rename_i x hx
    have h1 := List.mem_of_find?_eq_some hx
    have h2 := List.find?_some hx
    simp at h2
    rw [Nat.mod_eq_of_lt hl] at h2
    exact ⟨x, h1, h2⟩
theorem faultK_ne1 {ms : List (Nat × Int)} {a j : Nat} {need need' : Int} (h : faultK ms a j need = 0) : faultK ms a j need' ≠ 1 := by
  have hl := faultK_lt ms a j need h
  unfold faultK at h ⊢
  split at h
  · simp at h
  · rw [if_neg (by omega)]
    split <;> simp
theorem faultFrom_ne1 (ms : List (Nat × Int)) (a : Nat) (need need' : Int) : ∀ (m i : Nat), (∀ j, i ≤ j → j < i + m → faultK ms a j need = 0) → (faultFrom ms a need' i m).1 ≠ 1
  | 0, i, _ => by simp [faultFrom]
  | m + 1, i, h => by
    rw [faultFrom]
    split
    · exact faultFrom_ne1 ms a need need' m (i + 1) (fun j h1 h2 => h j (by omega) (by omega))
    · exact faultK_ne1 (h i (by omega) (by omega))
theorem faultFrom_at (ms : List (Nat × Int)) (a : Nat) (need : Int) : ∀ (m i : Nat), (faultFrom ms a need i m).1 ≠ 0 → ∃ j, i ≤ j ∧ j < i + m ∧ (faultFrom ms a need i m).2 = (a + j) % 18446744073709551616
  | 0, i, h => by simp [faultFrom] at h
  | m + 1, i, h => by
    rw [faultFrom] at h ⊢
    split at h
    · rename_i h0
      rw [if_pos h0]
      obtain ⟨j, h1, h2, h3⟩ := faultFrom_at ms a need m (i + 1) h
      exact ⟨j, by omega, by omega, h3⟩
    · rename_i h0
      rw [if_neg h0]
      exact ⟨i, by omega, by omega, rfl⟩
theorem cellIf_mem {c n : Nat} {x : Nat × Int} (h : x ∈ cellIf c n) : x = (c, (n : Int)) ∧ n ≠ 0 := by
  unfold cellIf at h
  split at h
  · simp at h
  · rename_i h0; simp at h; exact ⟨h, h0⟩
theorem put_mem {cs : List (Nat × Int)} (hw : Words cs) {a last v : Nat} {x : Nat × Int} (h : x ∈ putCells cs a last v) : (x.1 = cellOf a ∨ x.1 = cellOf last) ∧ x.2 ≠ 0 ∧ 0 ≤ x.2 ∧ x.2 < 18446744073709551616 := by
  rw [putCells] at h
  rcases List.mem_append.1 h with h | h
  · obtain ⟨rfl, h0⟩ := cellIf_mem h
    have := nowN_lt (wordN cs (cellOf a)) (maskOf (max a (cellOf a) - cellOf a) (min last (cellOf a + 7) - cellOf a)) (v * 2 ^ (8 * (a - cellOf a)) % 18446744073709551616) (wordN_lt cs hw _) (mask_lt _ _)
    exact ⟨Or.inl rfl, by simpa using h0, by simp, by simp only; omega⟩
  · split at h
    · simp at h
    · obtain ⟨rfl, h0⟩ := cellIf_mem h
      have := nowN_lt (wordN cs (cellOf last)) (maskOf (max a (cellOf last) - cellOf last) (min last (cellOf last + 7) - cellOf last)) (v / 2 ^ (8 * (cellOf last - a))) (wordN_lt cs hw _) (mask_lt _ _)
      exact ⟨Or.inr rfl, by simpa using h0, by simp, by simp only; omega⟩
theorem put_srt (cs : List (Nat × Int)) {a last : Nat} (v : Nat) (h : a ≤ last) : Srt (putCells cs a last v) := by
  have one : ∀ c n, Srt (cellIf c n) := by
    intro c n; unfold cellIf; split
    · exact List.Pairwise.nil
    · exact List.pairwise_singleton _ _
  rw [putCells]
  split
  · rw [List.append_nil]; exact one _ _
  · rename_i hne
    refine srt_join (one _ _) (one _ _) ?_
    intro x hx y hy
    obtain ⟨rfl, _⟩ := cellIf_mem hx
    obtain ⟨rfl, _⟩ := cellIf_mem hy
    unfold cellOf at hne ⊢
    simp only; omega
theorem put_len (cs : List (Nat × Int)) (a last v : Nat) : (putCells cs a last v).length ≤ 2 := by
  rw [putCells, List.length_append]
  have h1 := cellIf_len (cellOf a) (nowN (wordN cs (cellOf a)) (maskOf (max a (cellOf a) - cellOf a) (min last (cellOf a + 7) - cellOf a)) (v * 2 ^ (8 * (a - cellOf a)) % 18446744073709551616))
  split
  · simp only [List.length_nil]; omega
  · have h2 := cellIf_len (cellOf last) (nowN (wordN cs (cellOf last)) (maskOf (max a (cellOf last) - cellOf last) (min last (cellOf last + 7) - cellOf last)) (v / 2 ^ (8 * (cellOf last - a))))
    omega
/-- With a number put in a memory stays fit. -/
theorem fit_store {ms cs : List (Nat × Int)} (h : FitQ ms cs) (hw : Words cs) (hrc : ∀ y ∈ cs, y.1 < 18446744073709551616) (hfew : cs.length ≤ 65534) (a k v : Nat) (k1 : 1 ≤ k) (hf : (faultFrom ms a 2 0 k).1 = 0) :
    FitQ ms (storeN cs a k v) ∧ Words (storeN cs a k v) ∧ ∀ y ∈ storeN cs a k v, y.1 < 18446744073709551616 := by
  obtain ⟨h1, h2, h3, h4, h5, h6⟩ := h
  obtain ⟨_, hfj⟩ := faultFrom_kind ms a 2 k 0 hf
  have p0 := faultK_page (hfj 0 (by omega) (by omega))
  have p1 := faultK_page (hfj (k - 1) (by omega) (by omega))
  have b1 := faultK_lt ms a (k - 1) 2 (hfj (k - 1) (by omega) (by omega))
  obtain ⟨last, hl⟩ : ∃ last, last = a + k - 1 := ⟨_, rfl⟩
  have f1 := cellOf_facts a
  have f2 := cellOf_facts last
  have hco : cellOf a ≤ cellOf last := by unfold cellOf at *; omega
  have l1 := parts_len cs h4 (cellOf a) (cellOf last) hco
  have lp := put_len cs a last v
  have e : storeN cs a k v = lo cs (cellOf a) ++ putCells cs a last v ++ hi cs (cellOf last) := by rw [storeN, hl]
  rw [e]
  refine ⟨⟨h1, by simp; omega, h3, srt_join (srt_join (lo_srt h4 _) (put_srt cs v (by omega)) ?_) (hi_srt h4 _) ?_, h5, ?_⟩, ?_, ?_⟩
  · intro x hx y hy
    have q1 := (lo_mem.1 hx).2
    have q2 := (put_mem hw hy).1
    omega
  · intro x hx y hy
    have q2 := (hi_mem.1 hy).2
    rcases List.mem_append.1 hx with g | g
    · have q1 := (lo_mem.1 g).2; omega
    · have q1 := (put_mem hw g).1; omega
  · intro c hc
    rcases List.mem_append.1 hc with g | g
    · rcases List.mem_append.1 g with g | g
      · exact h6 c (lo_mem.1 g).1
      · obtain ⟨q1, q2, _, _⟩ := put_mem hw g
        rcases q1 with q | q
        · refine ⟨by omega, q2, ?_⟩
          obtain ⟨x, hx, ex⟩ := p0
          exact ⟨x, hx, by rw [ex, q]; unfold cellOf; omega⟩
        · refine ⟨by omega, q2, ?_⟩
          obtain ⟨x, hx, ex⟩ := p1
          exact ⟨x, hx, by rw [ex, q]; unfold cellOf; omega⟩
    · exact h6 c (hi_mem.1 g).1
  · refine words_app (words_app (words_lo hw _) ?_) (words_hi hw _)
    intro x hx
    exact (put_mem hw hx).2.2
  · intro y hy
    rcases List.mem_append.1 hy with g | g
    · rcases List.mem_append.1 g with g | g
      · exact hrc y (lo_mem.1 g).1
      · have := (put_mem hw g).1; omega
    · exact hrc y (hi_mem.1 g).1
/-- What was stored is loaded. -/
theorem load_store (cs : List (Nat × Int)) (hw : Words cs) (hw' : ∀ a k v, Words (storeN cs a k v)) (a k v : Nat) (k1 : 1 ≤ k) (k8 : k ≤ 8) : loadN (storeN cs a k v) a k = v % 2 ^ (8 * k) := by
  apply Nat.eq_of_testBit_eq
  intro j
  rw [loadN_bit _ (hw' a k v) a k j k1 k8, Nat.testBit_mod_two_pow]
  by_cases hj : j < 8 * k
  · rw [decide_eq_true hj, Bool.true_and, Bool.true_and, storeN_bit cs hw a k v _ _ k1 k8 (cellOf_facts _).1 (by omega)]
    have f := cellOf_facts (a + j / 8)
    have e : cellOf (a + j / 8) + (8 * ((a + j / 8) % 8) + j % 8) / 8 = a + j / 8 := by unfold cellOf; omega
    rw [e, if_pos (by omega)]
    congr 1; omega
  · rw [decide_eq_false hj]; simp
/-- Other bytes stay. -/
theorem load_other (cs : List (Nat × Int)) (hw : Words cs) (hw' : ∀ a k v, Words (storeN cs a k v)) (a k v b : Nat) (k1 : 1 ≤ k) (k8 : k ≤ 8) (hb : ¬ (a ≤ b ∧ b < a + k)) : loadN (storeN cs a k v) b 1 = loadN cs b 1 := by
  apply Nat.eq_of_testBit_eq
  intro j
  rw [loadN_bit _ (hw' a k v) b 1 j (by omega) (by omega), loadN_bit _ hw b 1 j (by omega) (by omega)]
  by_cases hj : j < 8 * 1
  · rw [decide_eq_true hj, Bool.true_and, Bool.true_and, storeN_bit cs hw a k v _ _ k1 k8 (cellOf_facts _).1 (by omega)]
    have e : cellOf (b + j / 8) + (8 * ((b + j / 8) % 8) + j % 8) / 8 = b := by unfold cellOf; omega
    rw [e, if_neg hb]
  · rw [decide_eq_false hj]; simp
theorem maskW (v k : Nat) (hv : v < 18446744073709551616) (hk : k ≤ 7) : bits .and .u64 (v : Int) (IntKind.u64.wrap (IntKind.u64.wrap (2 ^ (8 * k)) - 1)) = ((v % 2 ^ (8 * k) : Nat) : Int) := by
  have hq : 2 ^ (8 * k) ≤ 2 ^ 56 := Nat.pow_le_pow_right (show 1 ≤ 2 by decide) (by omega)
  have hq0 := Nat.pow_pos (n := 8 * k) (show 0 < 2 by decide)
  have e : IntKind.u64.wrap (IntKind.u64.wrap ((2 : Int) ^ (8 * k)) - 1) = ((2 ^ (8 * k) - 1 : Nat) : Int) := by
    have e2 : ((2 : Int) ^ (8 * k)) = ((2 ^ (8 * k) : Nat) : Int) := by simp
    rw [e2, IntKind.wrap_u64, IntKind.wrap_u64]; omega
  rw [e, and64 _ _ hv (by omega), Nat.and_two_pow_sub_one_eq_mod]
theorem words_store {cs : List (Nat × Int)} (hw : Words cs) (a k v : Nat) : Words (storeN cs a k v) := by
  rw [storeN]
  exact words_app (words_app (words_lo hw _) (fun x hx => (put_mem hw hx).2.2)) (words_hi hw _)
end Go.Proofs.Ytdhjmghfiodifaa
namespace Go.Proofs.Ytdhjmghfiodifaa
open Go.RowKit
set_option maxRecDepth 100000
set_option linter.unusedVariables false
theorem find_mid (xs : List (Nat × Int)) (a b c : Nat) (h1 : a ≤ c) (h2 : c ≤ b) : (mid xs a b).find? (fun x => x.1 == c) = xs.find? (fun x => x.1 == c) := by
  rw [mid, List.find?_filter]
  congr 1; funext x
  by_cases e : x.1 = c
  · simp [e, h1, h2]
  · simp [e]
def clearW (a last c old : Nat) : Nat := nowN old (maskOf (max a c - c) (min last (c + 7) - c)) 0
theorem clears_mem {a last : Nat} {xs : List (Nat × Int)} {y : Nat × Int} (h : y ∈ clears a last xs) : ∃ x ∈ xs, y = (x.1, ((clearW a last x.1 x.2.toNat : Nat) : Int)) ∧ clearW a last x.1 x.2.toNat ≠ 0 := by
  rw [clears, List.mem_flatMap] at h
  obtain ⟨x, hx, hy⟩ := h
  obtain ⟨e, h0⟩ := cellIf_mem hy
  exact ⟨x, hx, e, h0⟩
theorem wordOf_clears (a last c : Nat) : ∀ (xs : List (Nat × Int)), Srt xs → wordOf (clears a last xs) c = match xs.find? (fun x => x.1 == c) with | some x => ((clearW a last c x.2.toNat : Nat) : Int) | none => 0
  | [], _ => by simp [clears, wordOf]
  | x :: xs, h => by
    obtain ⟨h1, h2⟩ := List.pairwise_cons.1 h
    have ih := wordOf_clears a last c xs h2
    have e : clears a last (x :: xs) = clearC a last x ++ clears a last xs := by simp [clears]
    have hw := wordOf_if x.1 (clearW a last x.1 x.2.toNat) c
    by_cases hx : x.1 = c
    · have hf : (x :: xs).find? (fun x => x.1 == c) = some x := by simp [hx]
      rw [hf]
      have hrest : wordOf (clears a last xs) c = 0 := by
        rw [ih, find_none (fun y hy => by have := h1 y hy; omega)]
      by_cases h0 : clearW a last x.1 x.2.toNat = 0
      · have e0 : clearC a last x = [] := by
          show cellIf x.1 (clearW a last x.1 x.2.toNat) = []
          rw [h0]; rfl
        rw [e, e0, List.nil_append, hrest]
        simp only
        rw [← hx, h0]; rfl
      · have e0 : clearC a last x = [(x.1, ((clearW a last x.1 x.2.toNat : Nat) : Int))] := by
          show cellIf x.1 (clearW a last x.1 x.2.toNat) = _
          rw [cellIf, if_neg h0]
        rw [e, e0, wordOf]
        simp [hx]
    · have hf : (x :: xs).find? (fun x => x.1 == c) = xs.find? (fun x => x.1 == c) := by simp [hx]
      rw [hf, ← ih, e, wordOf, List.find?_append, find_none (xs := clearC a last x) (p := c) (fun y hy => by
        obtain ⟨ey, _⟩ := cellIf_mem hy
        rw [ey]; exact hx), Option.none_or, wordOf]
theorem lastOf_ge {a n : Nat} (ha : a < 18446744073709551616) : a ≤ lastOf a n ∧ lastOf a n < 18446744073709551616 := by rw [lastOf]; omega
/-- The words of a memory of which bytes are cleared. -/
theorem clearN_word (cs : List (Nat × Int)) (hs : Srt cs) (hw : Words cs) (a n c : Nat) (hn : n ≠ 0) (ha : a < 18446744073709551616) :
    wordN (clearN cs a n) c = if c < cellOf a ∨ lastOf a n < c then wordN cs c else clearW a (lastOf a n) c (wordN cs c) := by
  have hl := lastOf_ge (n := n) ha
  have f := cellOf_facts a
  have hP : ∀ x ∈ clears a (lastOf a n) (mid cs (cellOf a) (lastOf a n)), cellOf a ≤ x.1 ∧ x.1 ≤ lastOf a n := by
    intro x hx
    obtain ⟨y, hy, e, _⟩ := clears_mem hx
    rw [e]
    exact (mid_mem.1 hy).2
  rw [clearN, if_neg hn, wordN, wordOf_parts cs _ _ _ c hP]
  by_cases hout : c < cellOf a ∨ lastOf a n < c
  · rw [if_pos hout, if_pos hout]; rfl
  · rw [if_neg hout, if_neg hout, wordOf_clears a (lastOf a n) c _ (mid_srt hs _ _), find_mid cs _ _ c (by omega) (by omega), wordN, wordOf]
    cases hf : cs.find? (fun x => x.1 == c) with
    | none => simp [clearW, nowN, clr]
    | some x => simp
theorem clearW_bit (a last c old i : Nat) (h1 : c ≤ last) (h2 : a ≤ c + 7) (hi64 : i < 64) : (clearW a last c old).testBit i = if a ≤ c + i / 8 ∧ c + i / 8 ≤ last then false else old.testBit i := by
  rw [clearW, nowN_bit _ _ _ _ (mask_lt _ _), mask_bit _ _ _ (by omega) (by omega)]
  by_cases hin : a ≤ c + i / 8 ∧ c + i / 8 ≤ last
  · rw [if_pos hin, decide_eq_true (by omega : 8 * (max a c - c) ≤ i ∧ i < 8 * (min last (c + 7) - c) + 8)]
    simp
  · rw [if_neg hin, decide_eq_false (by omega : ¬ (8 * (max a c - c) ≤ i ∧ i < 8 * (min last (c + 7) - c) + 8)), decide_eq_true hi64]
    simp
theorem clearN_bit (cs : List (Nat × Int)) (hs : Srt cs) (hw : Words cs) (a n c i : Nat) (ha : a < 18446744073709551616) (hc : c % 8 = 0) (hi64 : i < 64) (hci : c + i / 8 < 18446744073709551616) :
    (wordN (clearN cs a n) c).testBit i = if a ≤ c + i / 8 ∧ c + i / 8 < a + n then false else (wordN cs c).testBit i := by
  by_cases hn : n = 0
  · subst hn
    rw [clearN, if_pos rfl, if_neg (by omega)]
  have f := cellOf_facts a
  have hl : ∀ x, x < 18446744073709551616 → (a ≤ x → (x ≤ lastOf a n ↔ x < a + n)) := by intro x hx hax; rw [lastOf]; omega
  rw [clearN_word cs hs hw a n c hn ha]
  have hlg := lastOf_ge (n := n) ha
  by_cases hout : c < cellOf a ∨ lastOf a n < c
  · rw [if_pos hout, if_neg]
    rintro ⟨q1, q2⟩
    have := (hl (c + i / 8) hci q1).2 q2
    unfold cellOf at *
    omega
  · rw [if_neg hout, clearW_bit _ _ _ _ _ (by omega) (by omega) hi64]
    by_cases hax : a ≤ c + i / 8
    · have := hl (c + i / 8) hci hax
      by_cases hx : c + i / 8 < a + n
      · rw [if_pos ⟨hax, this.2 hx⟩, if_pos ⟨hax, hx⟩]
      · rw [if_neg (fun h => hx (this.1 h.2)), if_neg (fun h => hx h.2)]
    · rw [if_neg (fun h => hax h.1), if_neg (fun h => hax h.1)]
theorem peekN_bit (cs : List (Nat × Int)) (a j : Nat) : (peekN cs a).testBit j = (decide (j < 8) && (wordN cs (cellOf a)).testBit (8 * (a % 8) + j)) := by
  rw [peekN, show (256 : Nat) = 2 ^ 8 by rfl, Nat.testBit_mod_two_pow, Nat.testBit_div_two_pow, Nat.add_comm]
/-- Cleared bytes are 0, others stay. -/
theorem peek_clear (cs : List (Nat × Int)) (hs : Srt cs) (hw : Words cs) (a n p : Nat) (ha : a < 18446744073709551616) (hp : p < 18446744073709551616) :
    peekN (clearN cs a n) p = if a ≤ p ∧ p < a + n then 0 else peekN cs p := by
  apply Nat.eq_of_testBit_eq
  intro j
  rw [peekN_bit]
  have e : ∀ j, j < 8 → cellOf p + (8 * (p % 8) + j) / 8 = p := by intro j hj; unfold cellOf; omega
  by_cases hj : j < 8
  · rw [decide_eq_true hj, Bool.true_and, clearN_bit cs hs hw a n _ _ ha (cellOf_facts p).1 (by omega) (by rw [e j hj]; exact hp), e j hj]
    by_cases h : a ≤ p ∧ p < a + n
    · rw [if_pos h, if_pos h, Nat.zero_testBit]
    · rw [if_neg h, if_neg h, peekN_bit, decide_eq_true hj, Bool.true_and]
  · rw [decide_eq_false hj, Bool.false_and]
    by_cases h : a ≤ p ∧ p < a + n
    · rw [if_pos h, Nat.zero_testBit]
    · rw [if_neg h, peekN_bit, decide_eq_false hj, Bool.false_and]
theorem clears_srt (a last : Nat) : ∀ (xs : List (Nat × Int)), Srt xs → Srt (clears a last xs)
  | [], _ => List.Pairwise.nil
  | x :: xs, h => by
    obtain ⟨h1, h2⟩ := List.pairwise_cons.1 h
    have e : clears a last (x :: xs) = clearC a last x ++ clears a last xs := by simp [clears]
    rw [e]
    refine srt_join ?_ (clears_srt a last xs h2) ?_
    · unfold clearC cellIf
      split
      · exact List.Pairwise.nil
      · exact List.pairwise_singleton _ _
    · intro y hy z hz
      obtain ⟨ey, _⟩ := cellIf_mem hy
      obtain ⟨u, hu, ez, _⟩ := clears_mem hz
      rw [ey, ez]
      exact h1 u hu
theorem clearW_lt (a last c old : Nat) (h : old < 18446744073709551616) : clearW a last c old < 18446744073709551616 := nowN_lt _ _ _ h (mask_lt _ _)
/-- With bytes cleared a memory stays fit. -/
theorem fit_clear {ms cs : List (Nat × Int)} (h : FitQ ms cs) (hw : Words cs) (hrc : ∀ y ∈ cs, y.1 < 18446744073709551616) (a n : Nat) (ha : a < 18446744073709551616) :
    FitQ ms (clearN cs a n) ∧ Words (clearN cs a n) ∧ ∀ y ∈ clearN cs a n, y.1 < 18446744073709551616 := by
  by_cases hn : n = 0
  · subst hn
    rw [clearN, if_pos rfl]
    exact ⟨h, hw, hrc⟩
  obtain ⟨h1, h2, h3, h4, h5, h6⟩ := h
  obtain ⟨last, hl⟩ : ∃ last, last = lastOf a n := ⟨_, rfl⟩
  have hlg := lastOf_ge (n := n) ha
  rw [← hl] at hlg
  have f1 := cellOf_facts a
  have l1 := parts_len cs h4 (cellOf a) last (by omega)
  have l2 := clears_len a last (mid cs (cellOf a) last)
  rw [clearN, if_neg hn, ← hl]
  have hmm : ∀ y ∈ clears a last (mid cs (cellOf a) last), ∃ x ∈ cs, x.1 = y.1 ∧ cellOf a ≤ y.1 ∧ y.1 ≤ last ∧ y.2 ≠ 0 ∧ 0 ≤ y.2 ∧ y.2 < 18446744073709551616 := by
    intro y hy
    obtain ⟨x, hx, e, h0⟩ := clears_mem hy
    obtain ⟨hx1, hx2, hx3⟩ := mid_mem.1 hx
    have hlt := clearW_lt a last x.1 x.2.toNat (by have := hw x hx1; omega)
    rw [e]
    exact ⟨x, hx1, rfl, hx2, hx3, by simpa using h0, by simp, by simp only; omega⟩
  refine ⟨⟨h1, by simp; omega, h3, srt_join (srt_join (lo_srt h4 _) (clears_srt _ _ _ (mid_srt h4 _ _)) ?_) (hi_srt h4 _) ?_, h5, ?_⟩, ?_, ?_⟩
  · intro x hx y hy
    have q1 := (lo_mem.1 hx).2
    obtain ⟨_, _, _, q2, _⟩ := hmm y hy
    omega
  · intro x hx y hy
    have q2 := (hi_mem.1 hy).2
    rcases List.mem_append.1 hx with g | g
    · have q1 := (lo_mem.1 g).2; omega
    · obtain ⟨_, _, _, _, q3, _⟩ := hmm x g
      omega
  · intro c hc
    rcases List.mem_append.1 hc with g | g
    · rcases List.mem_append.1 g with g | g
      · exact h6 c (lo_mem.1 g).1
      · obtain ⟨x, hx, e, _, _, q, _⟩ := hmm c g
        obtain ⟨r1, _, r3⟩ := h6 x hx
        rw [e] at r1 r3
        exact ⟨r1, q, r3⟩
    · exact h6 c (hi_mem.1 g).1
  · refine words_app (words_app (words_lo hw _) ?_) (words_hi hw _)
    intro x hx
    obtain ⟨_, _, _, _, _, _, q⟩ := hmm x hx
    exact q
  · intro y hy
    rcases List.mem_append.1 hy with g | g
    · rcases List.mem_append.1 g with g | g
      · exact hrc y (lo_mem.1 g).1
      · obtain ⟨_, _, _, _, q, _⟩ := hmm y g
        omega
    · exact hrc y (hi_mem.1 g).1
/-- A byte of a number of eight. -/
theorem load_byte (cs : List (Nat × Int)) (hw : Words cs) (a k : Nat) (hk : k < 8) : loadN cs (a + k) 1 = loadN cs a 8 / 2 ^ (8 * k) % 256 := by
  apply Nat.eq_of_testBit_eq
  intro j
  rw [loadN_bit cs hw (a + k) 1 j (by omega) (by omega), show (256 : Nat) = 2 ^ 8 by rfl, Nat.testBit_mod_two_pow, Nat.testBit_div_two_pow, loadN_bit cs hw a 8 _ (by omega) (by omega)]
  by_cases hj : j < 8
  · rw [decide_eq_true (by omega : j < 8 * 1), decide_eq_true (by omega : j + 8 * k < 8 * 8)]
    simp only [Bool.true_and]
    have e : a + k + j / 8 = a + (j + 8 * k) / 8 := by omega
    rw [e]
    congr 2; omega
  · rw [decide_eq_false (by omega : ¬ j < 8 * 1)]
    simp
end Go.Proofs.Ytdhjmghfiodifaa
namespace Go.Proofs.Ytdhjmghfiodifaa
open Go.RowKit
set_option maxRecDepth 100000
set_option linter.unusedVariables false
/-- The fault of a byte. -/
def faultR (ms : List (Nat × Int)) (a : Nat) (need : Int) : Int := match ms.find? (fun x => x.1 == a / 16384) with | none => 1 | some x => if bits .and .i64 x.2 need = 0 then 2 else 0
theorem place_find (ms : List (Nat × Int)) (p : Nat) : (placeOf ms p = -1 ∧ ms.find? (fun x => x.1 == p) = none) ∨ ∃ k, ∃ h : k < ms.length, placeOf ms p = (k : Int) ∧ ms.find? (fun x => x.1 == p) = some ms[k] := by
  unfold placeOf
  cases hf : ms.findIdx? (fun x => x.1 == p) with
  | none =>
    left
    refine ⟨rfl, ?_⟩
    rw [List.findIdx?_eq_none_iff] at hf
    rw [List.find?_eq_none]
    intro x hx
    simpa using hf x hx
  | some k =>
    right
    rw [List.findIdx?_eq_some_iff_getElem] at hf
    obtain ⟨h, h1, h2⟩ := hf
    refine ⟨k, h, rfl, ?_⟩
    rw [List.find?_eq_some_iff_getElem]
    exact ⟨h1, k, h, rfl, fun j hj => by simpa using h2 j hj⟩
theorem faultK_R (ms : List (Nat × Int)) (a i : Nat) (need : Int) : faultK ms a i need = if 18446744073709551616 ≤ a + i then 1 else faultR ms ((a + i) % 18446744073709551616) need := by
  rw [faultK, faultR]
  by_cases h : 18446744073709551616 ≤ a + i
  · rw [if_pos h]; split
    · rfl
    · rw [if_pos h]
  · rw [if_neg h]
    cases ms.find? (fun x => x.1 == (a + i) % 18446744073709551616 / 16384) with
    | none => rfl
    | some x => simp only [if_neg h]
theorem faultR_zero {ms : List (Nat × Int)} {a : Nat} {need : Int} : faultR ms a need = 0 ∨ faultR ms a need = 1 ∨ faultR ms a need = 2 := by
  unfold faultR
  split
  · exact Or.inr (Or.inl rfl)
  · split
    · exact Or.inr (Or.inr rfl)
    · exact Or.inl rfl
end Go.Proofs.Ytdhjmghfiodifaa
namespace Go.Proofs.Ytdhjmghfiodifaa
open Go.RowKit
set_option maxRecDepth 100000
set_option linter.unusedVariables false
/-- The number of n bytes, 0 if n is 0. -/
def loadB (cs : List (Nat × Int)) (a n : Nat) : Nat := if n = 0 then 0 else loadN cs a n
theorem loadB_bit (cs : List (Nat × Int)) (hw : Words cs) (a k j : Nat) (k8 : k ≤ 8) :
    (loadB cs a k).testBit j = (decide (j < 8 * k) && (wordN cs (cellOf (a + j / 8))).testBit (8 * ((a + j / 8) % 8) + j % 8)) := by
  unfold loadB
  split
  · rename_i h; subst h; simp
  · exact loadN_bit cs hw a k j (by omega) k8
theorem peekN_lt (cs : List (Nat × Int)) (a : Nat) : peekN cs a < 256 := Nat.mod_lt _ (by omega)
theorem loadB_step (cs : List (Nat × Int)) (hw : Words cs) (a m : Nat) (hm : m < 8) : loadB cs (a + 1) m * 256 + peekN cs a = loadB cs a (m + 1) := by
  apply Nat.eq_of_testBit_eq
  intro j
  rw [show loadB cs (a + 1) m * 256 + peekN cs a = 2 ^ 8 * loadB cs (a + 1) m + peekN cs a by omega, Nat.testBit_two_pow_mul_add _ (peekN_lt cs a), loadB_bit cs hw a (m + 1) j (by omega)]
  by_cases hj : j < 8
  · rw [if_pos hj, peekN_bit, decide_eq_true hj, decide_eq_true (by omega), show j / 8 = 0 by omega, Nat.add_zero]
    congr 3; omega
  · rw [if_neg hj, loadB_bit cs hw (a + 1) m _ (by omega), show a + 1 + (j - 8) / 8 = a + j / 8 by omega]
    congr 1
    · rw [Bool.eq_iff_iff]; simp; omega
    · congr 1; omega
theorem loadB_lt (cs : List (Nat × Int)) (hw : Words cs) (a m : Nat) (hm : m ≤ 8) : loadB cs a m < 18446744073709551616 := by
  refine Nat.lt_pow_two_of_testBit _ (n := 64) (fun i hi => ?_)
  rw [loadB_bit cs hw a m i hm, decide_eq_false (by omega), Bool.false_and]
end Go.Proofs.Ytdhjmghfiodifaa
namespace Go.Proofs.Ytdhjmghfiodifaa
open Go.RowKit
set_option maxRecDepth 100000
set_option linter.unusedVariables false
/-- Has the cell been met? -/
def metB (b wd : Nat) (xs : List (Nat × Int)) : Bool := decide (wd = 0) || xs.any (fun x => decide (b ≤ x.1))
/-- What has been laid out, of a list's beginning. -/
def outL (b wd : Nat) (xs : List (Nat × Int)) : List (Nat × Int) := lo xs b ++ (if metB b wd xs then cellIf b wd else []) ++ hi xs b
theorem lo_snoc (xs : List (Nat × Int)) (x : Nat × Int) (b : Nat) : lo (xs ++ [x]) b = lo xs b ++ (if x.1 < b then [x] else []) := by
  rw [lo, List.filter_append]
  congr 1
  by_cases h : x.1 < b
  · simp [h]
  · simp [h]
theorem hi_snoc (xs : List (Nat × Int)) (x : Nat × Int) (b : Nat) : hi (xs ++ [x]) b = hi xs b ++ (if b < x.1 then [x] else []) := by
  rw [hi, List.filter_append]
  congr 1
  by_cases h : b < x.1
  · simp [h]
  · simp [h]
theorem met_snoc (b wd : Nat) (xs : List (Nat × Int)) (x : Nat × Int) : metB b wd (xs ++ [x]) = (metB b wd xs || decide (b ≤ x.1)) := by
  simp [metB, List.any_append, Bool.or_assoc]
theorem hi_nil {xs : List (Nat × Int)} {b : Nat} (h : ∀ y ∈ xs, y.1 ≤ b) : hi xs b = [] := by
  rw [hi, List.filter_eq_nil_iff]
  intro y hy
  have := h y hy
  simp; omega
theorem met_no {b wd : Nat} {xs : List (Nat × Int)} (h : ∀ y ∈ xs, y.1 < b) : metB b wd xs = decide (wd = 0) := by
  rw [metB]
  have : xs.any (fun x => decide (b ≤ x.1)) = false := by
    rw [List.any_eq_false]
    intro y hy
    have := h y hy
    simp; omega
  rw [this, Bool.or_false]
theorem cellIf_zero (b : Nat) : cellIf b 0 = [] := by simp [cellIf]
theorem out_nil (b wd : Nat) : outL b wd [] = [] := by
  by_cases h : wd = 0
  · subst h; simp [outL, lo, hi, cellIf]
  · simp [outL, lo, hi, metB, h]
/-- Below the cell: it is kept. -/
theorem out_lt {b wd : Nat} {xs : List (Nat × Int)} {x : Nat × Int} (hs : ∀ y ∈ xs, y.1 < x.1) (h : x.1 < b) : outL b wd (xs ++ [x]) = outL b wd xs ++ [x] ∧ metB b wd (xs ++ [x]) = metB b wd xs := by
  have h1 : ∀ y ∈ xs, y.1 < b := fun y hy => by have := hs y hy; omega
  have hm : metB b wd (xs ++ [x]) = metB b wd xs := by rw [met_snoc, decide_eq_false (by omega), Bool.or_false]
  refine ⟨?_, hm⟩
  have he : (if metB b wd xs = true then cellIf b wd else []) = [] := by
    rw [met_no h1]
    by_cases w0 : wd = 0
    · rw [w0, cellIf_zero]; simp
    · simp [w0]
  rw [outL, outL, lo_snoc, hi_snoc, hm, he, if_pos h, if_neg (by omega), hi_nil (fun y hy => by have := h1 y hy; omega)]
  simp
/-- At the cell: it goes, the new one comes. -/
theorem out_eq {b wd : Nat} {xs : List (Nat × Int)} {x : Nat × Int} (hs : ∀ y ∈ xs, y.1 < x.1) (h : x.1 = b) : outL b wd (xs ++ [x]) = outL b wd xs ++ cellIf b wd ∧ metB b wd (xs ++ [x]) = true ∧ metB b wd xs = decide (wd = 0) := by
  have h1 : ∀ y ∈ xs, y.1 < b := fun y hy => by have := hs y hy; omega
  have hm : metB b wd (xs ++ [x]) = true := by rw [met_snoc, decide_eq_true (by omega), Bool.or_true]
  refine ⟨?_, hm, met_no h1⟩
  have he : (if metB b wd xs = true then cellIf b wd else []) = [] := by
    rw [met_no h1]
    by_cases w0 : wd = 0
    · rw [w0, cellIf_zero]; simp
    · simp [w0]
  rw [outL, outL, lo_snoc, hi_snoc, hm, he, if_neg (show ¬ x.1 < b by omega), if_neg (show ¬ b < x.1 by omega), hi_nil (fun y hy => by have := h1 y hy; omega)]
  simp
/-- Above the cell. -/
theorem out_gt {b wd : Nat} {xs : List (Nat × Int)} {x : Nat × Int} (h : b < x.1) (hm0 : metB b wd xs = true ∨ ∀ y ∈ xs, y.1 < b) : outL b wd (xs ++ [x]) = outL b wd xs ++ (if metB b wd xs then [] else cellIf b wd) ++ [x] ∧ metB b wd (xs ++ [x]) = true := by
  have hm : metB b wd (xs ++ [x]) = true := by rw [met_snoc, decide_eq_true (by omega), Bool.or_true]
  refine ⟨?_, hm⟩
  rw [outL, outL, lo_snoc, hi_snoc, hm, if_neg (by omega), if_pos h, List.append_nil]
  by_cases hm1 : metB b wd xs = true
  · rw [hm1]; simp
  · rcases hm0 with q | q
    · exact absurd q hm1
    · rw [hi_nil (fun y hy => by have := q y hy; omega)]
      simp [hm1]
/-- The cells with a byte put in. -/
def pokeL (cs : List (Nat × Int)) (b wd : Nat) : List (Nat × Int) := lo cs b ++ cellIf b wd ++ hi cs b
theorem met_or {b wd : Nat} (xs : List (Nat × Int)) : metB b wd xs = true ∨ ∀ y ∈ xs, y.1 < b := by
  by_cases h : metB b wd xs = true
  · exact Or.inl h
  · right
    intro y hy
    rw [metB] at h
    simp at h
    have := h.2 y.1 y.2 hy
    omega
theorem out_end (cs : List (Nat × Int)) (b wd : Nat) : (metB b wd cs = true → outL b wd cs = pokeL cs b wd) ∧ (metB b wd cs = false → outL b wd cs ++ [(b, (wd : Int))] = pokeL cs b wd) := by
  constructor
  · intro h; rw [outL, pokeL, h]; simp
  · intro h
    have hw : wd ≠ 0 := by
      intro e; rw [e, metB] at h; simp at h
    rcases met_or (b := b) (wd := wd) cs with q | q
    · rw [h] at q; cases q
    · have hn := hi_nil (xs := cs) (b := b) (fun y hy => by have := q y hy; omega)
      rw [outL, pokeL, h, hn, cellIf, if_neg hw]; simp
/-- The word with a byte put in. -/
def pokeW (cs : List (Nat × Int)) (a bt : Nat) : Nat := clr (wordN cs (cellOf a)) (255 * 2 ^ (8 * (a % 8))) ||| bt * 2 ^ (8 * (a % 8))
theorem pow_le (r : Nat) (h : r < 8) : 2 ^ (8 * r) ≤ 2 ^ 56 := Nat.pow_le_pow_right (by omega) (by omega)
end Go.Proofs.Ytdhjmghfiodifaa
