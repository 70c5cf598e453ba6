/- What is proved here: a memory's words, bit by bit: of what is loaded, of what was stored. -/
import Derived.Test.YtkpmkgkfpikpfaaGreatPlain
import Derived.Test.YtkpmkgkfpikpfaaGreatHeld
import Derived.Laws.StructEq
import Derived.Test.YtkpmkgkfpikpfaaGreatCopied
import Derived.Test.YtkpmkgkfpikpfaaGreatSmall
import Derived.Test.YtkpmkgkfpikpfaaGreatSpan
import Derived.Test.YtkpmkgkfpikpfaaGreatStoreF
namespace Go.Proofs.YtkpmkgkfpikpfaaGreat
open Go.RowKit
set_option maxRecDepth 100000
set_option linter.unusedVariables false
theorem find_lo (xs : List (Nat × Int)) (a c : Nat) : (lo xs a).find? (fun x => x.1 == c) = if c < a then xs.find? (fun x => x.1 == c) else none := by
 rw [lo, List.find?_filter]
 by_cases h : c < a
 ·rw [if_pos h]
  congr 1; funext x
  by_cases e : x.1 = c
  ·simp [e, h]
  ·simp [e]
 ·rw [if_neg h, List.find?_eq_none]
  intro x hx
  simp; omega
theorem find_hi (xs : List (Nat × Int)) (a c : Nat) : (hi xs a).find? (fun x => x.1 == c) = if a < c then xs.find? (fun x => x.1 == c) else none := by
 rw [hi, List.find?_filter]
 by_cases h : a < c
 ·rw [if_pos h]
  congr 1; funext x
  by_cases e : x.1 = c
  ·simp [e, h]
  ·simp [e]
 ·rw [if_neg h, List.find?_eq_none]
  intro x hx
  simp; omega
theorem wordOf_parts (cs P : List (Nat × Int)) (a b c : Nat) (hP : ∀ x ∈ P, a ≤ x.1 ∧ x.1 ≤ b) :
  wordOf (lo cs a ++ P ++ hi cs b) c = if c < a ∨ b < c then wordOf cs c else wordOf P c := by
 by_cases hab : a ≤ b
 ·by_cases h : c < a ∨ b < c
  ·rw [if_pos h, wordOf, List.find?_append, List.find?_append, find_lo, find_hi, find_none (xs := P) (p := c) (fun x hx => by have := hP x hx; omega), wordOf]
   rcases h with h | h
   ·rw [if_pos h, if_neg (by omega)]
    cases cs.find? (fun x => x.1 == c) <;> rfl
   ·rw [if_neg (by omega), if_pos h]
    cases cs.find? (fun x => x.1 == c) <;> rfl
  ·rw [if_neg h, wordOf, List.find?_append, List.find?_append, find_lo, find_hi, if_neg (by omega), if_neg (by omega), wordOf]
   cases P.find? (fun x => x.1 == c) <;> rfl
 ·have hn : P = [] := List.eq_nil_iff_forall_not_mem.2 (fun x hx => by have := hP x hx; omega)
  subst hn
  have h : c < a ∨ b < c := by omega
  rw [if_pos h, wordOf, List.find?_append, List.find?_append, find_lo, find_hi, wordOf]
  by_cases h1 : c < a
  ·rw [if_pos h1]
   by_cases h2 : b < c
   ·rw [if_pos h2]; cases cs.find? (fun x => x.1 == c) <;> rfl
   ·rw [if_neg h2]; cases cs.find? (fun x => x.1 == c) <;> rfl
  ·rw [if_neg h1, if_pos (by omega)]; cases cs.find? (fun x => x.1 == c) <;> rfl
theorem wordOf_if (a n c : Nat) : wordOf (cellIf a n) c = if c = a then (n : Int) else 0 := by
 unfold cellIf
 split
 ·rename_i h; subst h; rw [wordOf]; simp
 ·rw [wordOf]
  by_cases e : c = a
  ·subst e; simp
  ·rw [if_neg e]
   have : ([(a, (n : Int))].find? (fun x => x.1 == c)) = none := by simp; omega
   rw [this]
theorem nowN_bit (old mask v j : Nat) (hm : mask < 18446744073709551616) : (nowN old mask v).testBit j = ((old.testBit j && (decide (j < 64) && !mask.testBit j)) || (v.testBit j && mask.testBit j)) := by
 rw [nowN, Nat.testBit_or, clr_bit _ _ _ hm, Nat.testBit_and]
theorem word_small {n j : Nat} (h : n < 18446744073709551616) (hj : 64 ≤ j) : n.testBit j = false := Nat.testBit_lt_two_pow (Nat.lt_of_lt_of_le h (Nat.pow_le_pow_right (n := 2) (by decide) hj))
set_option maxHeartbeats 4000000 in
theorem rsame12 (vm vc vm' vc' : Value) (ms cs ms' cs' : List (Nat × Int)) (w : World) (hm : Sl .i64 w vm ms) (hc : Sl .u64 w vc cs) (hm' : Sl .i64 w vm' ms') (hc' : Sl .u64 w vc' cs') :
  Calls Tryz.prog 65 #[.agg #[vm, vc], .agg #[vm', vc']] w fun e w' => e = .returned (.bool (decide (ms = ms' ∧ cs = cs'))) ∧ Below w.heap.size w w' := by
 obtain ⟨X, hX, hx, hxs, c0, c1, _, _⟩ := box2 w vm vc 25
 obtain ⟨W, hW, hb, hsz, c2, c3, _, _⟩ := box2 X vm' vc' 25
 rw [hxs] at c2 c3
 have c0 := keep_cell hb c0
 have c1 := keep_cell hb c1
 have hb := below_tr hx hb
 obtain ⟨am, cm, rfl, x1, x2, _, x4⟩ := hm.keep hb
 obtain ⟨ac, cc, rfl, y1, y2, _, y4⟩ := hc.keep hb
 obtain ⟨am', cm', rfl, u1, u2, _, u4⟩ := hm'.keep hb
 obtain ⟨ac', cc', rfl, v1, v2, _, v4⟩ := hc'.keep hb
 have HXm : Hid _ := x4
 have HYm : Hid _ := u4
 have HXc : Hid _ := y4
 have HYc : Hid _ := v4
 clear x4 y4 u4 v4 hm hc hm' hc'
 by_cases hl1 : ms.length = ms'.length
 case neg =>
  have HR : Hid (decide (ms = ms' ∧ cs = cs') = false) := by
   have h : ¬ (ms = ms' ∧ cs = cs') := by rintro ⟨e, _⟩; subst e; exact hl1 rfl
   simp [Hid, h]
  have hl' : ((ms.length : Int) != (ms'.length : Int)) = true := by simp; omega
  clear HXm HYm HXc HYc
  go_enter Tryz.func65, Tryz.ntmps65
  go_wp2
  go_ret
  exact ⟨by rw [HR.out]; rfl, hb⟩
 by_cases hl2 : cs.length = cs'.length
 case neg =>
  have HR : Hid (decide (ms = ms' ∧ cs = cs') = false) := by
   have h : ¬ (ms = ms' ∧ cs = cs') := by rintro ⟨_, e⟩; subst e; exact hl2 rfl
   simp [Hid, h]
  have hl' : ((cs.length : Int) != (cs'.length : Int)) = true := by simp; omega
  rw [← hl1] at c2 hW ⊢
  clear HXm HYm HXc HYc hl1 hl2
  go_enter Tryz.func65, Tryz.ntmps65
  go_wp2
  go_ret
  exact ⟨by rw [HR.out]; rfl, hb⟩
 rw [← hl1] at u1 c2 hW ⊢
 rw [← hl2] at v1 c3 hW ⊢
 have HLm : Hid (ms.length = ms'.length) := hl1
 have HLc : Hid (cs.length = cs'.length) := hl2
 clear hl1 hl2
 go_enter Tryz.func65, Tryz.ntmps65
 go_wp2
 go_loopw [5] (fun i wr => ∃ k : Nat, k ≤ ms.length ∧ i = .int .i64 (k : Int) ∧ ms.take k = ms'.take k ∧ Below W.heap.size W wr) (fun i _ => ms.length - (intOf i).toNat)
 case atStart => exact ⟨0, Nat.zero_le _, rfl, rfl, Below.refl _ _⟩
 case round =>
  obtain ⟨k, hk, rfl, htk, hbr⟩ := hrel
  have HT : Hid (ms.take k = ms'.take k) := htk
  clear htk
  have hbw := below_tr hb hbr
  have z0 := keep_cell hbr c0
  have z1 := keep_cell hbr c1
  have z2 := keep_cell hbr c2
  have z3 := keep_cell hbr c3
  by_cases hkl : k < ms.length
  ·have hkl' : k < ms'.length := by rw [← HLm.out]; exact hkl
   obtain ⟨b, o, rfl, d0, d1⟩ := HXm.out k hkl
   obtain ⟨b', o', rfl, d0', d1'⟩ := HYm.out k hkl'
   have e0 := keep_cell hbr d0
   have e1 := keep_cell hbr d1
   have e0' := keep_cell hbr d0'
   have e1' := keep_cell hbr d1'
   clear d0 d1 d0' d1'
   by_cases he : ms[k] = ms'[k]'(by rw [← HLm.out]; exact hkl)
   ·have HR : Hid (ms.take (k + 1) = ms'.take (k + 1)) := by
     rw [List.take_add_one, List.take_add_one, HT.out, List.getElem?_eq_getElem hkl, List.getElem?_eq_getElem (by rw [← HLm.out]; exact hkl), he]; rfl
    rw [← he] at e0' e1'
    obtain ⟨p, hp⟩ : ∃ p, p = ms[k].1 := ⟨_, rfl⟩
    obtain ⟨r, hr⟩ : ∃ r, r = ms[k].2 := ⟨_, rfl⟩
    rw [← hp] at e0 e0'
    rw [← hr] at e1 e1'
    clear he hp hr
    go_wp2
    go_region_held3 (fun w' => Below w.heap.size w w' ∧ w'.cell? ⟨w.heap.size, 0, none⟩ = some (.slice (some ⟨b, o, none⟩) ms.length cm) ∧ w'.cell? ⟨w.heap.size + 1, 0, none⟩ = some (.slice (some ⟨b', o', none⟩) ms.length cm') ∧ w'.cell? ⟨b, o + k * 2, none⟩ = some (.int .u64 (p : Int)) ∧ w'.cell? ⟨b, o + k * 2 + 1, none⟩ = some (.int .i64 r) ∧ w'.cell? ⟨b', o' + k * 2, none⟩ = some (.int .u64 (p : Int)) ∧ w'.cell? ⟨b', o' + k * 2 + 1, none⟩ = some (.int .i64 r)) (refine ⟨?_, ?_, ?_, ?_, ?_, ?_, ?_⟩ <;> first | (with_reducible refine Free.cell ?_; (repeat (first | with_reducible assumption | with_reducible refine Free.drew ?_ | with_reducible refine Free.alloc ?_ _ | with_reducible refine Free.set ?_ _ _ | with_reducible refine Free.keep (by with_reducible assumption) ?_)); done) | (with_reducible refine Free.frozen ?_; (repeat (first | with_reducible assumption | with_reducible refine Free.drew ?_ | with_reducible refine Free.alloc ?_ _ | with_reducible refine Free.set ?_ _ _ | with_reducible refine Free.keep (by with_reducible assumption) ?_)); done) | ((repeat (first | with_reducible assumption | with_reducible exact Below.refl _ _ | with_reducible refine Below.drew ?_ | with_reducible refine below_alloc ?_ _ | (with_reducible refine below_set ?_ ?_ _; rotate_left; focus (first | (simp; done) | (simp; omega))) | with_reducible refine below_tr ?_ (by with_reducible assumption))); done) | ((repeat (first | with_reducible assumption | with_reducible refine cell_drew ?_ | (with_reducible refine cell_newA _ _ _ _ _ _ ?_ rfl; (simp [*]; done)) | with_reducible refine cell_old ?_ _ | (with_reducible refine cell_far ?_ ?_ _; rotate_left; focus (first | (simp; done) | (simp; omega))) | with_reducible refine keep_cell (by with_reducible assumption) ?_)); done)) (fail)
    all_goals go_wp2
    go_roundw
    case rel => exact ⟨k + 1, by omega, by go_num, HR.out, (by (repeat (first | with_reducible assumption | with_reducible exact Below.refl _ _ | with_reducible refine Below.drew ?_ | with_reducible refine below_alloc ?_ _ | (with_reducible refine below_set ?_ ?_ _; rotate_left; focus (first | (simp; done) | (simp; omega))) | with_reducible refine below_tr ?_ (by with_reducible assumption))))⟩
    case measure => simp [intOf]; omega
   ·have HR : Hid (decide (ms = ms' ∧ cs = cs') = false) := by
     have h : ¬ (ms = ms' ∧ cs = cs') := by rintro ⟨q1, q2⟩; subst q1; subst q2; exact he rfl
     simp [Hid, h]
    obtain ⟨p, hp⟩ : ∃ p, p = ms[k].1 := ⟨_, rfl⟩
    obtain ⟨r, hr⟩ : ∃ r, r = ms[k].2 := ⟨_, rfl⟩
    obtain ⟨p', hp'⟩ : ∃ p, p = (ms'[k]'(by rw [← HLm.out]; exact hkl)).1 := ⟨_, rfl⟩
    obtain ⟨r', hr'⟩ : ∃ r, r = (ms'[k]'(by rw [← HLm.out]; exact hkl)).2 := ⟨_, rfl⟩
    have hne : p = p' → ¬ r = r' := by
     rintro h1 h2
     exact he (Prod.ext (by rw [← hp, ← hp', h1]) (by rw [← hr, ← hr', h2]))
    rw [← hp] at e0
    rw [← hr] at e1
    rw [← hp'] at e0'
    rw [← hr'] at e1'
    clear he hp hr hp' hr'
    rcases (show ¬ ((p : Int) = (p' : Int)) ∨ (p = p' ∧ ¬ r = r') by
     by_cases e : p = p'
     ·exact Or.inr ⟨e, hne e⟩
     ·exact Or.inl (by omega)) with hq | ⟨rfl, hq⟩
    ·clear hne
     go_wp2
     go_region_held3 (fun w' => Below w.heap.size w w' ∧ w'.cell? ⟨w.heap.size, 0, none⟩ = some (.slice (some ⟨b, o, none⟩) ms.length cm) ∧ w'.cell? ⟨w.heap.size + 1, 0, none⟩ = some (.slice (some ⟨b', o', none⟩) ms.length cm') ∧ w'.cell? ⟨b, o + k * 2, none⟩ = some (.int .u64 (p : Int)) ∧ w'.cell? ⟨b, o + k * 2 + 1, none⟩ = some (.int .i64 r) ∧ w'.cell? ⟨b', o' + k * 2, none⟩ = some (.int .u64 (p' : Int)) ∧ w'.cell? ⟨b', o' + k * 2 + 1, none⟩ = some (.int .i64 r')) (refine ⟨?_, ?_, ?_, ?_, ?_, ?_, ?_⟩ <;> first | (with_reducible refine Free.cell ?_; (repeat (first | with_reducible assumption | with_reducible refine Free.drew ?_ | with_reducible refine Free.alloc ?_ _ | with_reducible refine Free.set ?_ _ _ | with_reducible refine Free.keep (by with_reducible assumption) ?_)); done) | (with_reducible refine Free.frozen ?_; (repeat (first | with_reducible assumption | with_reducible refine Free.drew ?_ | with_reducible refine Free.alloc ?_ _ | with_reducible refine Free.set ?_ _ _ | with_reducible refine Free.keep (by with_reducible assumption) ?_)); done) | ((repeat (first | with_reducible assumption | with_reducible exact Below.refl _ _ | with_reducible refine Below.drew ?_ | with_reducible refine below_alloc ?_ _ | (with_reducible refine below_set ?_ ?_ _; rotate_left; focus (first | (simp; done) | (simp; omega))) | with_reducible refine below_tr ?_ (by with_reducible assumption))); done) | ((repeat (first | with_reducible assumption | with_reducible refine cell_drew ?_ | (with_reducible refine cell_newA _ _ _ _ _ _ ?_ rfl; (simp [*]; done)) | with_reducible refine cell_old ?_ _ | (with_reducible refine cell_far ?_ ?_ _; rotate_left; focus (first | (simp; done) | (simp; omega))) | with_reducible refine keep_cell (by with_reducible assumption) ?_)); done)) (fail)
     all_goals go_wp2
     all_goals go_ret
     all_goals exact ⟨by rw [HR.out]; rfl, (by (repeat (first | with_reducible assumption | with_reducible exact Below.refl _ _ | with_reducible refine Below.drew ?_ | with_reducible refine below_alloc ?_ _ | (with_reducible refine below_set ?_ ?_ _; rotate_left; focus (first | (simp; done) | (simp; omega))) | with_reducible refine below_tr ?_ (by with_reducible assumption))))⟩
    ·clear hne
     go_wp2
     go_region_held3 (fun w' => Below w.heap.size w w' ∧ w'.cell? ⟨w.heap.size, 0, none⟩ = some (.slice (some ⟨b, o, none⟩) ms.length cm) ∧ w'.cell? ⟨w.heap.size + 1, 0, none⟩ = some (.slice (some ⟨b', o', none⟩) ms.length cm') ∧ w'.cell? ⟨b, o + k * 2, none⟩ = some (.int .u64 (p : Int)) ∧ w'.cell? ⟨b, o + k * 2 + 1, none⟩ = some (.int .i64 r) ∧ w'.cell? ⟨b', o' + k * 2, none⟩ = some (.int .u64 (p : Int)) ∧ w'.cell? ⟨b', o' + k * 2 + 1, none⟩ = some (.int .i64 r')) (refine ⟨?_, ?_, ?_, ?_, ?_, ?_, ?_⟩ <;> first | (with_reducible refine Free.cell ?_; (repeat (first | with_reducible assumption | with_reducible refine Free.drew ?_ | with_reducible refine Free.alloc ?_ _ | with_reducible refine Free.set ?_ _ _ | with_reducible refine Free.keep (by with_reducible assumption) ?_)); done) | (with_reducible refine Free.frozen ?_; (repeat (first | with_reducible assumption | with_reducible refine Free.drew ?_ | with_reducible refine Free.alloc ?_ _ | with_reducible refine Free.set ?_ _ _ | with_reducible refine Free.keep (by with_reducible assumption) ?_)); done) | ((repeat (first | with_reducible assumption | with_reducible exact Below.refl _ _ | with_reducible refine Below.drew ?_ | with_reducible refine below_alloc ?_ _ | (with_reducible refine below_set ?_ ?_ _; rotate_left; focus (first | (simp; done) | (simp; omega))) | with_reducible refine below_tr ?_ (by with_reducible assumption))); done) | ((repeat (first | with_reducible assumption | with_reducible refine cell_drew ?_ | (with_reducible refine cell_newA _ _ _ _ _ _ ?_ rfl; (simp [*]; done)) | with_reducible refine cell_old ?_ _ | (with_reducible refine cell_far ?_ ?_ _; rotate_left; focus (first | (simp; done) | (simp; omega))) | with_reducible refine keep_cell (by with_reducible assumption) ?_)); done)) (fail)
     all_goals go_wp2
     all_goals go_ret
     all_goals exact ⟨by rw [HR.out]; rfl, (by (repeat (first | with_reducible assumption | with_reducible exact Below.refl _ _ | with_reducible refine Below.drew ?_ | with_reducible refine below_alloc ?_ _ | (with_reducible refine below_set ?_ ?_ _; rotate_left; focus (first | (simp; done) | (simp; omega))) | with_reducible refine below_tr ?_ (by with_reducible assumption))))⟩
  ·have HE0 : Hid (ms = ms') := by
    have := HT.out
    rwa [List.take_of_length_le (by omega), List.take_of_length_le (by rw [← HLm.out]; omega)] at this
   go_wp2
   go_loopw [6] (fun i wr => ∃ k : Nat, k ≤ cs.length ∧ i = .int .i64 (k : Int) ∧ cs.take k = cs'.take k ∧ Below W.heap.size W wr) (fun i _ => cs.length - (intOf i).toNat)
   case atStart => exact ⟨0, Nat.zero_le _, rfl, rfl, hbr⟩
   case round =>
    clear hbw z0 z1 z2 z3 HT hkl hk hbr
    obtain ⟨k, hk, rfl, htk, hbr⟩ := hrel
    rename_i wr'
    have HT : Hid (cs.take k = cs'.take k) := htk
    clear htk
    have hbw := below_tr hb hbr
    have z0 := keep_cell hbr c0
    have z1 := keep_cell hbr c1
    have z2 := keep_cell hbr c2
    have z3 := keep_cell hbr c3
    by_cases hkl : k < cs.length
    ·have hkl' : k < cs'.length := by rw [← HLc.out]; exact hkl
     obtain ⟨b, o, rfl, d0, d1⟩ := HXc.out k hkl
     obtain ⟨b', o', rfl, d0', d1'⟩ := HYc.out k hkl'
     have e0 := keep_cell hbr d0
     have e1 := keep_cell hbr d1
     have e0' := keep_cell hbr d0'
     have e1' := keep_cell hbr d1'
     clear d0 d1 d0' d1'
     by_cases he : cs[k] = cs'[k]'(by rw [← HLc.out]; exact hkl)
     ·have HR : Hid (cs.take (k + 1) = cs'.take (k + 1)) := by
       rw [List.take_add_one, List.take_add_one, HT.out, List.getElem?_eq_getElem hkl, List.getElem?_eq_getElem (by rw [← HLc.out]; exact hkl), he]; rfl
      rw [← he] at e0' e1'
      obtain ⟨p, hp⟩ : ∃ p, p = cs[k].1 := ⟨_, rfl⟩
      obtain ⟨r, hr⟩ : ∃ r, r = cs[k].2 := ⟨_, rfl⟩
      rw [← hp] at e0 e0'
      rw [← hr] at e1 e1'
      clear he hp hr
      go_wp2
      go_region_held3 (fun w' => Below w.heap.size w w' ∧ w'.cell? ⟨w.heap.size, 1, none⟩ = some (.slice (some ⟨b, o, none⟩) cs.length cc) ∧ w'.cell? ⟨w.heap.size + 1, 1, none⟩ = some (.slice (some ⟨b', o', none⟩) cs.length cc') ∧ w'.cell? ⟨b, o + k * 2, none⟩ = some (.int .u64 (p : Int)) ∧ w'.cell? ⟨b, o + k * 2 + 1, none⟩ = some (.int .u64 r) ∧ w'.cell? ⟨b', o' + k * 2, none⟩ = some (.int .u64 (p : Int)) ∧ w'.cell? ⟨b', o' + k * 2 + 1, none⟩ = some (.int .u64 r)) (refine ⟨?_, ?_, ?_, ?_, ?_, ?_, ?_⟩ <;> first | (with_reducible refine Free.cell ?_; (repeat (first | with_reducible assumption | with_reducible refine Free.drew ?_ | with_reducible refine Free.alloc ?_ _ | with_reducible refine Free.set ?_ _ _ | with_reducible refine Free.keep (by with_reducible assumption) ?_)); done) | (with_reducible refine Free.frozen ?_; (repeat (first | with_reducible assumption | with_reducible refine Free.drew ?_ | with_reducible refine Free.alloc ?_ _ | with_reducible refine Free.set ?_ _ _ | with_reducible refine Free.keep (by with_reducible assumption) ?_)); done) | ((repeat (first | with_reducible assumption | with_reducible exact Below.refl _ _ | with_reducible refine Below.drew ?_ | with_reducible refine below_alloc ?_ _ | (with_reducible refine below_set ?_ ?_ _; rotate_left; focus (first | (simp; done) | (simp; omega))) | with_reducible refine below_tr ?_ (by with_reducible assumption))); done) | ((repeat (first | with_reducible assumption | with_reducible refine cell_drew ?_ | (with_reducible refine cell_newA _ _ _ _ _ _ ?_ rfl; (simp [*]; done)) | with_reducible refine cell_old ?_ _ | (with_reducible refine cell_far ?_ ?_ _; rotate_left; focus (first | (simp; done) | (simp; omega))) | with_reducible refine keep_cell (by with_reducible assumption) ?_)); done)) (fail)
      all_goals go_wp2
      go_roundw
      case rel => exact ⟨k + 1, by omega, by go_num, HR.out, (by (repeat (first | with_reducible assumption | with_reducible exact Below.refl _ _ | with_reducible refine Below.drew ?_ | with_reducible refine below_alloc ?_ _ | (with_reducible refine below_set ?_ ?_ _; rotate_left; focus (first | (simp; done) | (simp; omega))) | with_reducible refine below_tr ?_ (by with_reducible assumption))))⟩
      case measure => simp [intOf]; omega
     ·have HR : Hid (decide (ms = ms' ∧ cs = cs') = false) := by
       have h : ¬ (ms = ms' ∧ cs = cs') := by rintro ⟨q1, q2⟩; subst q1; subst q2; exact he rfl
       simp [Hid, h]
      obtain ⟨p, hp⟩ : ∃ p, p = cs[k].1 := ⟨_, rfl⟩
      obtain ⟨r, hr⟩ : ∃ r, r = cs[k].2 := ⟨_, rfl⟩
      obtain ⟨p', hp'⟩ : ∃ p, p = (cs'[k]'(by rw [← HLc.out]; exact hkl)).1 := ⟨_, rfl⟩
      obtain ⟨r', hr'⟩ : ∃ r, r = (cs'[k]'(by rw [← HLc.out]; exact hkl)).2 := ⟨_, rfl⟩
      have hne : p = p' → ¬ r = r' := by
       rintro h1 h2
       exact he (Prod.ext (by rw [← hp, ← hp', h1]) (by rw [← hr, ← hr', h2]))
      rw [← hp] at e0
      rw [← hr] at e1
      rw [← hp'] at e0'
      rw [← hr'] at e1'
      clear he hp hr hp' hr'
      rcases (show ¬ ((p : Int) = (p' : Int)) ∨ (p = p' ∧ ¬ r = r') by
       by_cases e : p = p'
       ·exact Or.inr ⟨e, hne e⟩
       ·exact Or.inl (by omega)) with hq | ⟨rfl, hq⟩
      ·clear hne
       go_wp2
       go_region_held3 (fun w' => Below w.heap.size w w' ∧ w'.cell? ⟨w.heap.size, 1, none⟩ = some (.slice (some ⟨b, o, none⟩) cs.length cc) ∧ w'.cell? ⟨w.heap.size + 1, 1, none⟩ = some (.slice (some ⟨b', o', none⟩) cs.length cc') ∧ w'.cell? ⟨b, o + k * 2, none⟩ = some (.int .u64 (p : Int)) ∧ w'.cell? ⟨b, o + k * 2 + 1, none⟩ = some (.int .u64 r) ∧ w'.cell? ⟨b', o' + k * 2, none⟩ = some (.int .u64 (p' : Int)) ∧ w'.cell? ⟨b', o' + k * 2 + 1, none⟩ = some (.int .u64 r')) (refine ⟨?_, ?_, ?_, ?_, ?_, ?_, ?_⟩ <;> first | (with_reducible refine Free.cell ?_; (repeat (first | with_reducible assumption | with_reducible refine Free.drew ?_ | with_reducible refine Free.alloc ?_ _ | with_reducible refine Free.set ?_ _ _ | with_reducible refine Free.keep (by with_reducible assumption) ?_)); done) | (with_reducible refine Free.frozen ?_; (repeat (first | with_reducible assumption | with_reducible refine Free.drew ?_ | with_reducible refine Free.alloc ?_ _ | with_reducible refine Free.set ?_ _ _ | with_reducible refine Free.keep (by with_reducible assumption) ?_)); done) | ((repeat (first | with_reducible assumption | with_reducible exact Below.refl _ _ | with_reducible refine Below.drew ?_ | with_reducible refine below_alloc ?_ _ | (with_reducible refine below_set ?_ ?_ _; rotate_left; focus (first | (simp; done) | (simp; omega))) | with_reducible refine below_tr ?_ (by with_reducible assumption))); done) | ((repeat (first | with_reducible assumption | with_reducible refine cell_drew ?_ | (with_reducible refine cell_newA _ _ _ _ _ _ ?_ rfl; (simp [*]; done)) | with_reducible refine cell_old ?_ _ | (with_reducible refine cell_far ?_ ?_ _; rotate_left; focus (first | (simp; done) | (simp; omega))) | with_reducible refine keep_cell (by with_reducible assumption) ?_)); done)) (fail)
       all_goals go_wp2
       all_goals go_ret
       all_goals exact ⟨by rw [HR.out]; rfl, (by (repeat (first | with_reducible assumption | with_reducible exact Below.refl _ _ | with_reducible refine Below.drew ?_ | with_reducible refine below_alloc ?_ _ | (with_reducible refine below_set ?_ ?_ _; rotate_left; focus (first | (simp; done) | (simp; omega))) | with_reducible refine below_tr ?_ (by with_reducible assumption))))⟩
      ·clear hne
       go_wp2
       go_region_held3 (fun w' => Below w.heap.size w w' ∧ w'.cell? ⟨w.heap.size, 1, none⟩ = some (.slice (some ⟨b, o, none⟩) cs.length cc) ∧ w'.cell? ⟨w.heap.size + 1, 1, none⟩ = some (.slice (some ⟨b', o', none⟩) cs.length cc') ∧ w'.cell? ⟨b, o + k * 2, none⟩ = some (.int .u64 (p : Int)) ∧ w'.cell? ⟨b, o + k * 2 + 1, none⟩ = some (.int .u64 r) ∧ w'.cell? ⟨b', o' + k * 2, none⟩ = some (.int .u64 (p : Int)) ∧ w'.cell? ⟨b', o' + k * 2 + 1, none⟩ = some (.int .u64 r')) (refine ⟨?_, ?_, ?_, ?_, ?_, ?_, ?_⟩ <;> first | (with_reducible refine Free.cell ?_; (repeat (first | with_reducible assumption | with_reducible refine Free.drew ?_ | with_reducible refine Free.alloc ?_ _ | with_reducible refine Free.set ?_ _ _ | with_reducible refine Free.keep (by with_reducible assumption) ?_)); done) | (with_reducible refine Free.frozen ?_; (repeat (first | with_reducible assumption | with_reducible refine Free.drew ?_ | with_reducible refine Free.alloc ?_ _ | with_reducible refine Free.set ?_ _ _ | with_reducible refine Free.keep (by with_reducible assumption) ?_)); done) | ((repeat (first | with_reducible assumption | with_reducible exact Below.refl _ _ | with_reducible refine Below.drew ?_ | with_reducible refine below_alloc ?_ _ | (with_reducible refine below_set ?_ ?_ _; rotate_left; focus (first | (simp; done) | (simp; omega))) | with_reducible refine below_tr ?_ (by with_reducible assumption))); done) | ((repeat (first | with_reducible assumption | with_reducible refine cell_drew ?_ | (with_reducible refine cell_newA _ _ _ _ _ _ ?_ rfl; (simp [*]; done)) | with_reducible refine cell_old ?_ _ | (with_reducible refine cell_far ?_ ?_ _; rotate_left; focus (first | (simp; done) | (simp; omega))) | with_reducible refine keep_cell (by with_reducible assumption) ?_)); done)) (fail)
       all_goals go_wp2
       all_goals go_ret
       all_goals exact ⟨by rw [HR.out]; rfl, (by (repeat (first | with_reducible assumption | with_reducible exact Below.refl _ _ | with_reducible refine Below.drew ?_ | with_reducible refine below_alloc ?_ _ | (with_reducible refine below_set ?_ ?_ _; rotate_left; focus (first | (simp; done) | (simp; omega))) | with_reducible refine below_tr ?_ (by with_reducible assumption))))⟩
    ·have HE1 : Hid (cs = cs') := by
      have := HT.out
      rwa [List.take_of_length_le (by omega), List.take_of_length_le (by rw [← HLc.out]; omega)] at this
     have HR : Hid (decide (ms = ms' ∧ cs = cs') = true) := by
      have h : ms = ms' ∧ cs = cs' := ⟨HE0.out, HE1.out⟩
      simp [Hid, h]
     go_wp2
     go_ret
     exact ⟨by rw [HR.out]; rfl, hbw⟩

def protX (page last : Nat) (prot : Int) (x : Nat × Int) : Nat × Int := if page ≤ x.1 ∧ x.1 ≤ last then (x.1, prot) else x
def protL (page last : Nat) (prot : Int) (xs : List (Nat × Int)) : List (Nat × Int) := xs.map (protX page last prot)
theorem protL_snoc (page last : Nat) (prot : Int) (xs : List (Nat × Int)) (m : Nat) (h : m < xs.length) : protL page last prot (xs.take (m + 1)) = protL page last prot (xs.take m) ++ [protX page last prot xs[m]] := by
 rw [protL, List.take_add_one, List.getElem?_eq_getElem h, List.map_append]; rfl
theorem midL_snoc (page last : Nat) (xs : List (Nat × Int)) (m : Nat) (h : m < xs.length) : (mid (xs.take (m + 1)) page last).length = (mid (xs.take m) page last).length + (if page ≤ xs[m].1 ∧ xs[m].1 ≤ last then 1 else 0) := by
 rw [mid, List.take_add_one, List.getElem?_eq_getElem h, List.filter_append, List.length_append]
 congr 1
 by_cases c : page ≤ xs[m].1 ∧ xs[m].1 ≤ last <;> simp [c]


theorem cellIf_mem {c n : Nat} {x : Nat × Int} (h : x ∈ cellIf c n) : x = (c, (n : Int)) ∧ n ≠ 0 := by
 unfold cellIf at h
 split at h
 ·simp at h
 ·rename_i h0; simp at h; exact ⟨h, h0⟩
theorem find_mid (xs : List (Nat × Int)) (a b c : Nat) (h1 : a ≤ c) (h2 : c ≤ b) : (mid xs a b).find? (fun x => x.1 == c) = xs.find? (fun x => x.1 == c) := by
 rw [mid, List.find?_filter]
 congr 1; funext x
 by_cases e : x.1 = c
 ·simp [e, h1, h2]
 ·simp [e]
def clearW (a last c old : Nat) : Nat := nowN old (maskOf (max a c - c) (min last (c + 7) - c)) 0
theorem clears_mem {a last : Nat} {xs : List (Nat × Int)} {y : Nat × Int} (h : y ∈ clears a last xs) : ∃ x ∈ xs, y = (x.1, ((clearW a last x.1 x.2.toNat : Nat) : Int)) ∧ clearW a last x.1 x.2.toNat ≠ 0 := by
 rw [clears, List.mem_flatMap] at h
 obtain ⟨x, hx, hy⟩ := h
 obtain ⟨e, h0⟩ := cellIf_mem hy
 exact ⟨x, hx, e, h0⟩
theorem wordOf_clears (a last c : Nat) : ∀ (xs : List (Nat × Int)), Srt xs → wordOf (clears a last xs) c = match xs.find? (fun x => x.1 == c) with | some x => ((clearW a last c x.2.toNat : Nat) : Int) | none => 0
 | [], _ => by simp [clears, wordOf]
 | x :: xs, h => by
  obtain ⟨h1, h2⟩ := List.pairwise_cons.1 h
  have ih := wordOf_clears a last c xs h2
  have e : clears a last (x :: xs) = clearC a last x ++ clears a last xs := by simp [clears]
  have hw := wordOf_if x.1 (clearW a last x.1 x.2.toNat) c
  by_cases hx : x.1 = c
  ·have hf : (x :: xs).find? (fun x => x.1 == c) = some x := by simp [hx]
   rw [hf]
   have hrest : wordOf (clears a last xs) c = 0 := by
    rw [ih, find_none (fun y hy => by have := h1 y hy; omega)]
   by_cases h0 : clearW a last x.1 x.2.toNat = 0
   ·have e0 : clearC a last x = [] := by
     show cellIf x.1 (clearW a last x.1 x.2.toNat) = []
     rw [h0]; rfl
    rw [e, e0, List.nil_append, hrest]
    simp only
    rw [← hx, h0]; rfl
   ·have e0 : clearC a last x = [(x.1, ((clearW a last x.1 x.2.toNat : Nat) : Int))] := by
     show cellIf x.1 (clearW a last x.1 x.2.toNat) = _
     rw [cellIf, if_neg h0]
    rw [e, e0, wordOf]
    simp [hx]
  ·have hf : (x :: xs).find? (fun x => x.1 == c) = xs.find? (fun x => x.1 == c) := by simp [hx]
   rw [hf, ← ih, e, wordOf, List.find?_append, find_none (xs := clearC a last x) (p := c) (fun y hy => by
    obtain ⟨ey, _⟩ := cellIf_mem hy
    rw [ey]; exact hx), Option.none_or, wordOf]
theorem lastOf_ge {a n : Nat} (ha : a < 18446744073709551616) : a ≤ lastOf a n ∧ lastOf a n < 18446744073709551616 := by rw [lastOf]; omega
theorem clearN_word (cs : List (Nat × Int)) (hs : Srt cs) (hw : Words cs) (a n c : Nat) (hn : n ≠ 0) (ha : a < 18446744073709551616) :
  wordN (clearN cs a n) c = if c < cellOf a ∨ lastOf a n < c then wordN cs c else clearW a (lastOf a n) c (wordN cs c) := by
 have hl := lastOf_ge (n := n) ha
 have f := cellOf_facts a
 have hP : ∀ x ∈ clears a (lastOf a n) (mid cs (cellOf a) (lastOf a n)), cellOf a ≤ x.1 ∧ x.1 ≤ lastOf a n := by
  intro x hx
  obtain ⟨y, hy, e, _⟩ := clears_mem hx
  rw [e]
  exact (mid_mem.1 hy).2
 rw [clearN, if_neg hn, wordN, wordOf_parts cs _ _ _ c hP]
 by_cases hout : c < cellOf a ∨ lastOf a n < c
 ·rw [if_pos hout, if_pos hout]; rfl
 ·rw [if_neg hout, if_neg hout, wordOf_clears a (lastOf a n) c _ (mid_srt hs _ _), find_mid cs _ _ c (by omega) (by omega), wordN, wordOf]
  cases hf : cs.find? (fun x => x.1 == c) with
  | none => simp [clearW, nowN, clr]
  | some x => simp
theorem clearW_bit (a last c old i : Nat) (h1 : c ≤ last) (h2 : a ≤ c + 7) (hi64 : i < 64) : (clearW a last c old).testBit i = if a ≤ c + i / 8 ∧ c + i / 8 ≤ last then false else old.testBit i := by
 rw [clearW, nowN_bit _ _ _ _ (mask_lt _ _), mask_bit _ _ _ (by omega) (by omega)]
 by_cases hin : a ≤ c + i / 8 ∧ c + i / 8 ≤ last
 ·rw [if_pos hin, decide_eq_true (by omega : 8 * (max a c - c) ≤ i ∧ i < 8 * (min last (c + 7) - c) + 8)]
  simp
 ·rw [if_neg hin, decide_eq_false (by omega : ¬ (8 * (max a c - c) ≤ i ∧ i < 8 * (min last (c + 7) - c) + 8)), decide_eq_true hi64]
  simp
theorem clearN_bit (cs : List (Nat × Int)) (hs : Srt cs) (hw : Words cs) (a n c i : Nat) (ha : a < 18446744073709551616) (hc : c % 8 = 0) (hi64 : i < 64) (hci : c + i / 8 < 18446744073709551616) :
  (wordN (clearN cs a n) c).testBit i = if a ≤ c + i / 8 ∧ c + i / 8 < a + n then false else (wordN cs c).testBit i := by
 by_cases hn : n = 0
 ·subst hn
  rw [clearN, if_pos rfl, if_neg (by omega)]
 have f := cellOf_facts a
 have hl : ∀ x, x < 18446744073709551616 → (a ≤ x → (x ≤ lastOf a n ↔ x < a + n)) := by intro x hx hax; rw [lastOf]; omega
 rw [clearN_word cs hs hw a n c hn ha]
 have hlg := lastOf_ge (n := n) ha
 by_cases hout : c < cellOf a ∨ lastOf a n < c
 ·rw [if_pos hout, if_neg]
  rintro ⟨q1, q2⟩
  have := (hl (c + i / 8) hci q1).2 q2
  unfold cellOf at *
  omega
 ·rw [if_neg hout, clearW_bit _ _ _ _ _ (by omega) (by omega) hi64]
  by_cases hax : a ≤ c + i / 8
  ·have := hl (c + i / 8) hci hax
   by_cases hx : c + i / 8 < a + n
   ·rw [if_pos ⟨hax, this.2 hx⟩, if_pos ⟨hax, hx⟩]
   ·rw [if_neg (fun h => hx (this.1 h.2)), if_neg (fun h => hx h.2)]
  ·rw [if_neg (fun h => hax h.1), if_neg (fun h => hax h.1)]
theorem clears_srt (a last : Nat) : ∀ (xs : List (Nat × Int)), Srt xs → Srt (clears a last xs)
 | [], _ => List.Pairwise.nil
 | x :: xs, h => by
  obtain ⟨h1, h2⟩ := List.pairwise_cons.1 h
  have e : clears a last (x :: xs) = clearC a last x ++ clears a last xs := by simp [clears]
  rw [e]
  refine srt_join ?_ (clears_srt a last xs h2) ?_
  ·unfold clearC cellIf
   split
   ·exact List.Pairwise.nil
   ·exact List.pairwise_singleton _ _
  ·intro y hy z hz
   obtain ⟨ey, _⟩ := cellIf_mem hy
   obtain ⟨u, hu, ez, _⟩ := clears_mem hz
   rw [ey, ez]
   exact h1 u hu
theorem clearW_lt (a last c old : Nat) (h : old < 18446744073709551616) : clearW a last c old < 18446744073709551616 := nowN_lt _ _ _ h (mask_lt _ _)
theorem fit_clear {ms cs : List (Nat × Int)} (h : FitQ ms cs) (hw : Words cs) (hrc : ∀ y ∈ cs, y.1 < 18446744073709551616) (a n : Nat) (ha : a < 18446744073709551616) :
  FitQ ms (clearN cs a n) ∧ Words (clearN cs a n) ∧ ∀ y ∈ clearN cs a n, y.1 < 18446744073709551616 := by
 by_cases hn : n = 0
 ·subst hn
  rw [clearN, if_pos rfl]
  exact ⟨h, hw, hrc⟩
 obtain ⟨h1, h2, h3, h4, h5, h6⟩ := h
 obtain ⟨last, hl⟩ : ∃ last, last = lastOf a n := ⟨_, rfl⟩
 have hlg := lastOf_ge (n := n) ha
 rw [← hl] at hlg
 have f1 := cellOf_facts a
 have l1 := parts_len cs h4 (cellOf a) last (by omega)
 have l2 := clears_len a last (mid cs (cellOf a) last)
 rw [clearN, if_neg hn, ← hl]
 have hmm : ∀ y ∈ clears a last (mid cs (cellOf a) last), ∃ x ∈ cs, x.1 = y.1 ∧ cellOf a ≤ y.1 ∧ y.1 ≤ last ∧ y.2 ≠ 0 ∧ 0 ≤ y.2 ∧ y.2 < 18446744073709551616 := by
  intro y hy
  obtain ⟨x, hx, e, h0⟩ := clears_mem hy
  obtain ⟨hx1, hx2, hx3⟩ := mid_mem.1 hx
  have hlt := clearW_lt a last x.1 x.2.toNat (by have := hw x hx1; omega)
  rw [e]
  exact ⟨x, hx1, rfl, hx2, hx3, by simpa using h0, by simp, by simp only; omega⟩
 refine ⟨⟨h1, by simp; omega, h3, srt_join (srt_join (lo_srt h4 _) (clears_srt _ _ _ (mid_srt h4 _ _)) ?_) (hi_srt h4 _) ?_, h5, ?_⟩, ?_, ?_⟩
 ·intro x hx y hy
  have q1 := (lo_mem.1 hx).2
  obtain ⟨_, _, _, q2, _⟩ := hmm y hy
  omega
 ·intro x hx y hy
  have q2 := (hi_mem.1 hy).2
  rcases List.mem_append.1 hx with g | g
  ·have q1 := (lo_mem.1 g).2; omega
  ·obtain ⟨_, _, _, _, q3, _⟩ := hmm x g
   omega
 ·intro c hc
  rcases List.mem_append.1 hc with g | g
  ·rcases List.mem_append.1 g with g | g
   ·exact h6 c (lo_mem.1 g).1
   ·obtain ⟨x, hx, e, _, _, q, _⟩ := hmm c g
    obtain ⟨r1, _, r3⟩ := h6 x hx
    rw [e] at r1 r3
    exact ⟨r1, q, r3⟩
  ·exact h6 c (hi_mem.1 g).1
 ·refine words_app (words_app (words_lo hw _) ?_) (words_hi hw _)
  intro x hx
  obtain ⟨_, _, _, _, _, _, q⟩ := hmm x hx
  exact q
 ·intro y hy
  rcases List.mem_append.1 hy with g | g
  ·rcases List.mem_append.1 g with g | g
   ·exact hrc y (lo_mem.1 g).1
   ·obtain ⟨_, _, _, _, q, _⟩ := hmm y g
    omega
  ·exact hrc y (hi_mem.1 g).1


theorem lo_snoc (xs : List (Nat × Int)) (x : Nat × Int) (b : Nat) : lo (xs ++ [x]) b = lo xs b ++ (if x.1 < b then [x] else []) := by
 rw [lo, List.filter_append]
 congr 1
 by_cases h : x.1 < b
 iterate 2
  ·simp [h]
theorem hi_snoc (xs : List (Nat × Int)) (x : Nat × Int) (b : Nat) : hi (xs ++ [x]) b = hi xs b ++ (if b < x.1 then [x] else []) := by
 rw [hi, List.filter_append]
 congr 1
 by_cases h : b < x.1
 iterate 2
  ·simp [h]
theorem hi_nil {xs : List (Nat × Int)} {b : Nat} (h : ∀ y ∈ xs, y.1 ≤ b) : hi xs b = [] := by
 rw [hi, List.filter_eq_nil_iff]
 intro y hy
 have := h y hy
 simp; omega
theorem cellIf_zero (b : Nat) : cellIf b 0 = [] := by simp [cellIf]
theorem pow_le (r : Nat) (h : r < 8) : 2 ^ (8 * r) ≤ 2 ^ 56 := Nat.pow_le_pow_right (by omega) (by omega)
end Go.Proofs.YtkpmkgkfpikpfaaGreat
