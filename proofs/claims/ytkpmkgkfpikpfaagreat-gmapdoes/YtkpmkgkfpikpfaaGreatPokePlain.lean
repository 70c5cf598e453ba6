/- What is proved here: bytes put one by one, plainly. -/
import Derived.Test.YtkpmkgkfpikpfaaGreatBackPlain
namespace Go.Proofs.YtkpmkgkfpikpfaaGreat
open Go.RowKit
set_option maxRecDepth 100000
set_option linter.unusedVariables false
theorem srt_ext : ∀ (A B : List (Nat × Int)), Srt A → Srt B → (∀ x, x ∈ A ↔ x ∈ B) → A = B
 | [], B, _, _, h => by
  cases B with
  | nil => rfl
  | cons b B => have := (h b).2 (by simp); simp at this
 | a :: A, B, hA, hB, h => by
  cases B with
  | nil => have := (h a).1 (by simp); simp at this
  | cons b B =>
   obtain ⟨a1, a2⟩ := List.pairwise_cons.1 hA
   obtain ⟨b1, b2⟩ := List.pairwise_cons.1 hB
   have e : a = b := by
    have q1 := (h a).1 (by simp)
    have q2 := (h b).2 (by simp)
    rcases List.mem_cons.1 q1 with q | q
    ·exact q
    ·rcases List.mem_cons.1 q2 with r | r
     ·exact r.symm
     ·have := b1 a q; have := a1 b r; omega
   subst e
   rw [srt_ext A B a2 b2 (fun x => ?_)]
   constructor
   ·intro hx
    rcases List.mem_cons.1 ((h x).1 (List.mem_cons_of_mem _ hx)) with q | q
    ·subst q; have := a1 x hx; omega
    ·exact q
   ·intro hx
    rcases List.mem_cons.1 ((h x).2 (List.mem_cons_of_mem _ hx)) with q | q
    ·subst q; have := b1 x hx; omega
    ·exact q
theorem cells_ext {A B : List (Nat × Int)} (hA : Srt A) (hB : Srt B) (nA : ∀ x ∈ A, x.2 ≠ 0) (nB : ∀ x ∈ B, x.2 ≠ 0) (h : ∀ c, wordOf A c = wordOf B c) : A = B := by
 have one : ∀ {A B : List (Nat × Int)}, Srt A → Srt B → (∀ x ∈ A, x.2 ≠ 0) → (∀ c, wordOf A c = wordOf B c) → ∀ x, x ∈ A → x ∈ B := by
  intro A B hA hB nA h x hx
  have e := h x.1
  rw [wordOf_mem hA hx] at e
  have hne := nA x hx
  unfold wordOf at e
  split at e
  ·rename_i y hy
   have h1 := List.mem_of_find?_eq_some hy
   have h2 := List.find?_some hy
   simp at h2
   have : x = y := Prod.ext h2.symm e
   rw [this]; exact h1
  ·exact absurd e hne
 exact srt_ext A B hA hB (fun x => ⟨one hA hB nA h x, one hB hA nB (fun c => (h c).symm) x⟩)
theorem wordOf_bits {A B : List (Nat × Int)} (hA : Words A) (hB : Words B) {c : Nat} (h : ∀ i, i < 64 → (wordN A c).testBit i = (wordN B c).testBit i) : wordOf A c = wordOf B c := by
 rw [wordOf_eq A hA, wordOf_eq B hB]
 congr 1
 apply Nat.eq_of_testBit_eq
 intro i
 by_cases hi : i < 64
 ·exact h i hi
 ·rw [word_small (wordN_lt A hA c) (by omega), word_small (wordN_lt B hB c) (by omega)]
theorem wordOf_out {A : List (Nat × Int)} {c : Nat} (h : ∀ x ∈ A, x.1 % 8 = 0) (hc : c % 8 ≠ 0) : wordOf A c = 0 := wordOf_no (fun x hx e => hc (e ▸ h x hx))
theorem mul_bit (x i j : Nat) : (x * 2 ^ i).testBit j = (decide (i ≤ j) && x.testBit (j - i)) := Nat.testBit_mul_two_pow x j i
theorem bit255 (j : Nat) : (255 : Nat).testBit j = decide (j < 8) := by
 rw [show (255 : Nat) = 2 ^ 8 - 1 by rfl, Nat.testBit_two_pow_sub_one]
theorem byte_shift_lt {x r : Nat} (hx : x < 256) (hr : r < 8) : x * 2 ^ (8 * r) < 18446744073709551616 := by
 have h := pow_le r hr
 have : x * 2 ^ (8 * r) ≤ 255 * 2 ^ (8 * r) := Nat.mul_le_mul_right _ (by omega)
 omega

def clrK (a n p r : Nat) : Nat → Nat
 | 0 => r
 | j + 1 => if within (p + j) a n then clr (clrK a n p r j) (255 * 2 ^ (8 * j)) else clrK a n p r j
theorem clrK_lt (a n p r : Nat) (h : r < 18446744073709551616) : ∀ j, clrK a n p r j < 18446744073709551616
 | 0 => h
 | j + 1 => by
  rw [clrK]
  split
  ·exact Nat.lt_of_le_of_lt Nat.and_le_left (clrK_lt a n p r h j)
  ·exact clrK_lt a n p r h j
theorem clrK_bit (a n p r i : Nat) (hi64 : i < 64) : ∀ j, j ≤ 8 → (clrK a n p r j).testBit i = if i / 8 < j ∧ a ≤ p + i / 8 ∧ p + i / 8 < a + n then false else r.testBit i
 | 0, _ => by rw [clrK, if_neg (by omega)]
 | j + 1, hj => by
  have ih := clrK_bit a n p r i hi64 j (by omega)
  rw [clrK]
  have e : within (p + j) a n = decide (a ≤ p + j ∧ p + j < a + n) := rfl
  rw [e]
  by_cases hw : a ≤ p + j ∧ p + j < a + n
  ·rw [if_pos (by simpa using hw), clr_bit _ _ _ (byte_shift_lt (by omega) (by omega)), ih, mul_bit, bit255, decide_eq_true hi64]
   by_cases h : i / 8 = j
   ·rw [decide_eq_true (by omega : 8 * j ≤ i), decide_eq_true (by omega : i - 8 * j < 8), if_pos (show i / 8 < j + 1 ∧ a ≤ p + i / 8 ∧ p + i / 8 < a + n by rw [h]; exact ⟨by omega, hw.1, hw.2⟩)]
    simp
   ·have hm : (decide (8 * j ≤ i) && decide (i - 8 * j < 8)) = false := by
     by_cases g : 8 * j ≤ i
     ·rw [decide_eq_false (by omega : ¬ i - 8 * j < 8)]; simp
     ·rw [decide_eq_false g]; simp
    rw [hm]
    simp only [Bool.not_false, Bool.and_true]
    by_cases q : i / 8 < j ∧ a ≤ p + i / 8 ∧ p + i / 8 < a + n
    ·rw [if_pos q, if_pos (by omega)]
    ·rw [if_neg q, if_neg (by omega)]
  ·rw [if_neg (by simpa using hw), ih]
   by_cases q : i / 8 < j ∧ a ≤ p + i / 8 ∧ p + i / 8 < a + n
   ·rw [if_pos q, if_pos (by omega)]
   ·rw [if_neg q, if_neg]
    rintro ⟨q1, q2, q3⟩
    have : i / 8 = j := by omega
    rw [this] at q2 q3
    exact hw ⟨q2, q3⟩
def rclearC (a n : Nat) (x : Nat × Int) : List (Nat × Int) := cellIf x.1 (clrK a n x.1 x.2.toNat 8)
def rclearL (a n : Nat) (xs : List (Nat × Int)) : List (Nat × Int) := xs.flatMap (rclearC a n)
theorem rclear_snoc (a n : Nat) (xs : List (Nat × Int)) (m : Nat) (h : m < xs.length) : rclearL a n (xs.take (m + 1)) = rclearL a n (xs.take m) ++ rclearC a n xs[m] := by
 rw [rclearL, List.take_add_one, List.getElem?_eq_getElem h, List.flatMap_append]
 simp [rclearL]
theorem rclear_len (a n : Nat) : ∀ (xs : List (Nat × Int)), (rclearL a n xs).length ≤ xs.length
 | [] => by simp [rclearL]
 | x :: xs => by
  have h1 := rclear_len a n xs
  have h2 : (rclearC a n x).length ≤ 1 := cellIf_len _ _
  have e : rclearL a n (x :: xs) = rclearC a n x ++ rclearL a n xs := by simp [rclearL]
  rw [e, List.length_append, List.length_cons]; omega
theorem rclear_mem {a n : Nat} {xs : List (Nat × Int)} {y : Nat × Int} (h : y ∈ rclearL a n xs) : ∃ x ∈ xs, y = (x.1, ((clrK a n x.1 x.2.toNat 8 : Nat) : Int)) ∧ clrK a n x.1 x.2.toNat 8 ≠ 0 := by
 rw [rclearL, List.mem_flatMap] at h
 obtain ⟨x, hx, hy⟩ := h
 obtain ⟨e, h0⟩ := cellIf_mem hy
 exact ⟨x, hx, e, h0⟩
theorem rclear_srt (a n : Nat) : ∀ (xs : List (Nat × Int)), Srt xs → Srt (rclearL a n xs)
 | [], _ => List.Pairwise.nil
 | x :: xs, h => by
  obtain ⟨h1, h2⟩ := List.pairwise_cons.1 h
  have e : rclearL a n (x :: xs) = rclearC a n x ++ rclearL a n xs := by simp [rclearL]
  rw [e]
  refine srt_join ?_ (rclear_srt a n xs h2) ?_
  ·unfold rclearC cellIf
   split
   ·exact List.Pairwise.nil
   ·exact List.pairwise_singleton _ _
  ·intro y hy z hz
   obtain ⟨ey, _⟩ := cellIf_mem hy
   obtain ⟨u, hu, ez, _⟩ := rclear_mem hz
   rw [ey, ez]
   exact h1 u hu
theorem wordOf_rclear (a n c : Nat) : ∀ (xs : List (Nat × Int)), Srt xs → wordOf (rclearL a n xs) c = match xs.find? (fun x => x.1 == c) with | some x => ((clrK a n c x.2.toNat 8 : Nat) : Int) | none => 0
 | [], _ => by simp [rclearL, wordOf]
 | x :: xs, h => by
  obtain ⟨h1, h2⟩ := List.pairwise_cons.1 h
  have ih := wordOf_rclear a n c xs h2
  have e : rclearL a n (x :: xs) = rclearC a n x ++ rclearL a n xs := by simp [rclearL]
  by_cases hx : x.1 = c
  ·have hf : (x :: xs).find? (fun x => x.1 == c) = some x := by simp [hx]
   rw [hf]
   have hrest : wordOf (rclearL a n xs) c = 0 := by
    rw [ih, find_none (fun y hy => by have := h1 y hy; omega)]
   by_cases h0 : clrK a n x.1 x.2.toNat 8 = 0
   ·have e0 : rclearC a n x = [] := by rw [rclearC, h0]; rfl
    rw [e, e0, List.nil_append, hrest]
    simp only
    rw [← hx, h0]; rfl
   ·have e0 : rclearC a n x = [(x.1, ((clrK a n x.1 x.2.toNat 8 : Nat) : Int))] := by rw [rclearC, cellIf, if_neg h0]
    rw [e, e0, wordOf]
    simp [hx]
  ·have hf : (x :: xs).find? (fun x => x.1 == c) = xs.find? (fun x => x.1 == c) := by simp [hx]
   rw [hf, ← ih, e, wordOf, List.find?_append, find_none (xs := rclearC a n x) (p := c) (fun y hy => by
    obtain ⟨ey, _⟩ := cellIf_mem hy
    rw [ey]; exact hx), Option.none_or, wordOf]
theorem clrK_zero (a n p : Nat) : ∀ j, clrK a n p 0 j = 0
 | 0 => rfl
 | j + 1 => by rw [clrK, clrK_zero a n p j]; split <;> simp [clr]
theorem rclear_eq {ms cs : List (Nat × Int)} (h : FitQ ms cs) (hw : Words cs) (hrc : ∀ y ∈ cs, y.1 < 18446744073709551616) (a n : Nat) (ha : a < 18446744073709551616) : rclearL a n cs = clearN cs a n := by
 obtain ⟨q, w2, _⟩ := fit_clear h hw hrc a n ha
 have hs := h.2.2.2.1
 have wA : Words (rclearL a n cs) := by
  intro y hy
  obtain ⟨x, hx, e, _⟩ := rclear_mem hy
  have := clrK_lt a n x.1 x.2.toNat (by have := hw x hx; omega) 8
  rw [e]; exact ⟨by simp, by simp only; omega⟩
 refine cells_ext (rclear_srt a n cs hs) q.2.2.2.1 ?_ (fun x hx => (q.2.2.2.2.2 x hx).2.1) (fun c => ?_)
 ·intro y hy
  obtain ⟨x, hx, e, h0⟩ := rclear_mem hy
  rw [e]; simpa using h0
 by_cases hc : c % 8 = 0
 ·by_cases hbig : c < 18446744073709551616
  ·refine wordOf_bits wA w2 (fun i hi => ?_)
   rw [clearN_bit cs hs hw a n c i ha hc hi (by omega)]
   have e : wordN (rclearL a n cs) c = clrK a n c (wordN cs c) 8 := by
    rw [wordN, wordOf_rclear a n c cs hs, wordN, wordOf]
    cases hf : cs.find? (fun x => x.1 == c) with
    | none => simp [clrK_zero]
    | some x => simp
   rw [e, clrK_bit _ _ _ _ _ hi 8 (Nat.le_refl _)]
   by_cases g : a ≤ c + i / 8 ∧ c + i / 8 < a + n
   ·rw [if_pos ⟨by omega, g⟩, if_pos g]
   ·rw [if_neg (fun q => g q.2), if_neg g]
  ·rw [wordOf_no (fun x hx e => by
    obtain ⟨y, hy, ey, _⟩ := rclear_mem hx
    have := hrc y hy
    rw [ey] at e; simp only at e; omega), wordOf_no]
   intro x hx e
   have := (fit_clear h hw hrc a n ha).2.2 x hx
   omega
 ·rw [wordOf_out (fun x hx => ?_) hc, wordOf_out (fun x hx => (q.2.2.2.2.2 x hx).1) hc]
  obtain ⟨y, hy, ey, _⟩ := rclear_mem hx
  rw [ey]; exact (h.2.2.2.2.2 y hy).1
set_option maxHeartbeats 4000000 in
set_option maxRecDepth 100000 in
theorem rclear25 (vm vc : Value) (ms cs : List (Nat × Int)) (a n : Nat) (w : World) (hm : Sl .i64 w vm ms) (hc : Sl .u64 w vc cs) (lc : cs.length ≤ 536870912) (hw : Words cs) (hrc : ∀ y ∈ cs, y.1 + 7 < 18446744073709551616)
  (ha : a < 18446744073709551616) (hn : n < 18446744073709551616) :
  Calls Tryz.prog 58 #[.agg #[vm, vc], .int .u64 (a : Int), .int .u64 (n : Int)] w fun e w' => ∃ vc', e = .returned (.agg #[vm, vc']) ∧ w'.ownsRow w.heap.size 82 2 vc' (rclearL a n cs).length (rowOf .u64 (rclearL a n cs)) ∧ Below w.heap.size w w' := by
 obtain ⟨W, hW, hb, hsz, c0, c1, _, h1, g0, g1⟩ := box2b w vm vc (.slice none 0 0) (.slice none 0 0) 25 25
 have hWsz : W.heap.size = w.heap.size + 2 := by omega
 obtain ⟨zs, hzs⟩ : ∃ z, z = rclearL a n cs := ⟨_, rfl⟩
 rw [← hzs]
 have HZ : Hid (zs = rclearL a n cs) := hzs
 obtain ⟨am, nm, pm, rfl⟩ : ∃ a n p, vm = .slice a n p := by obtain ⟨a, p, h, _⟩ := hm; exact ⟨_, _, _, h⟩
 obtain ⟨ac, pc, rfl, z1, z2, z4⟩ : ∃ ao cap, vc = .slice ao cs.length cap ∧ cs.length ≤ cap ∧ cap ≤ 9223372036854775807 ∧ ∀ i (h : i < cs.length), ∃ b o, ao = some ⟨b, o, none⟩ ∧ W.cell? ⟨b, o + i * 2, none⟩ = some (.int .u64 (cs[i].1 : Int)) ∧ W.cell? ⟨b, o + i * 2 + 1, none⟩ = some (.int .u64 cs[i].2) := by
  obtain ⟨ao, cap, e, q1, q2, _, q4⟩ := hc.keep hb
  exact ⟨ao, cap, e, q1, q2, q4⟩
 have HX : Hid (∀ i (h : i < cs.length), ∃ b o, ac = some ⟨b, o, none⟩ ∧ W.cell? ⟨b, o + i * 2, none⟩ = some (.int .u64 (cs[i].1 : Int)) ∧ W.cell? ⟨b, o + i * 2 + 1, none⟩ = some (.int .u64 cs[i].2)) := z4
 have HWR : Hid (∀ i (h : i < cs.length), 0 ≤ cs[i].2 ∧ cs[i].2 < 18446744073709551616 ∧ cs[i].1 + 7 < 18446744073709551616) := fun i h => ⟨(hw _ (List.getElem_mem h)).1, (hw _ (List.getElem_mem h)).2, hrc _ (List.getElem_mem h)⟩
 have K53 : Hid (∀ (b : Nat) w', b < 18446744073709551616 → Calls Tryz.prog 85 #[.int .u64 (b : Int), .int .u64 (a : Int), .int .u64 (n : Int)] w' fun e w'' => e = .returned (.bool (within b a n)) ∧ w'' = w') := fun b w' hb' => inside53 b a n hb' ha hn w'
 obtain ⟨i0, hi, hz0, hz1, hz2⟩ := info_parts info58
 have HI : Hid (Tryz.prog.info? 82 = some i0 ∧ i0.zero = some (.agg #[.int .u64 0, .int .u64 0]) ∧ i0.size = 2 ∧ i0.bytes = 16) := ⟨hi, hz0, hz1, hz2⟩
 clear hi hz0 hz1 hz2
 clear hm hc hw hrc z4 hzs ha hn
 go_enter Tryz.func58, Tryz.ntmps58
 go_wp2
 go_loopw [7, 8] (fun s i wr => ∃ m : Nat, m ≤ cs.length ∧ i = .int .i64 (m : Int) ∧ wr.ownsRow W.heap.size 82 2 s (rclearL a n (cs.take m)).length (rowOf .u64 (rclearL a n (cs.take m))) ∧ Below W.heap.size W wr) (fun _ i _ => cs.length - (intOf i).toNat)
 case atStart => exact ⟨0, Nat.zero_le _, rfl, World.ownsRow_nil _ _ _ _, Below.refl _ _⟩
 case round =>
  obtain ⟨m, hmle, rfl, how, hbr⟩ := hrel
  obtain ⟨sa, sn, sp, rfl⟩ := own_shape how
  have hlm : (rclearL a n (cs.take m)).length ≤ m := Nat.le_trans (rclear_len a n _) (by simp; omega)
  have e0 := keep_cell hbr c0
  have e1 := keep_cell hbr c1
  have hWr := hbr.size
  by_cases hml : m < cs.length
  ·obtain ⟨bb, o, rfl, D0, D1⟩ := HX.out m hml
   obtain ⟨q1, q2, q3⟩ := HWR.out m hml
   have HSN := rclear_snoc a n cs m hml
   obtain ⟨p, hp⟩ : ∃ p, p = cs[m].1 := ⟨_, rfl⟩
   obtain ⟨r, hr⟩ : ∃ r : Nat, cs[m].2 = (r : Int) := ⟨cs[m].2.toNat, by omega⟩
   rw [rclearC, hr, ← hp, Int.toNat_natCast] at HSN
   rw [← hp] at D0 q3
   rw [hr] at D1 q2
   have d0 := keep_cell hbr D0
   have d1 := keep_cell hbr D1
   obtain ⟨W3, hW3, hb3, hsz3, m0, m1, mf0, mf1⟩ := box2 wr (.int .u64 (p : Int)) (.int .u64 (r : Int)) 82
   have how3 := own_keep how hb3
   have hnb : ∀ g, (Value.slice sa sn sp).ownBlock = some g → g < wr.heap.size := fun g hg => (how.lt g hg).2
   have HNB : Hid ((Value.slice sa sn sp).ownBlock ≠ some wr.heap.size) := fun e => absurd (hnb _ e) (Nat.lt_irrefl _)
   have hbW3 : Below W.heap.size W W3 := hbr.trans (hb3.mono hbr.size)
   have HLR : Hid (r < 18446744073709551616 ∧ p + 7 < 18446744073709551616) := ⟨by omega, q3⟩
   have HSN : Hid (rclearL a n (cs.take (m + 1)) = rclearL a n (cs.take m) ++ cellIf p (clrK a n p r 8)) := HSN
   generalize rclearL a n (cs.take m) = xs at how3 HSN hlm
   clear how hnb hp hr q1 q2 q3 hb3
   go_wp2
   generalize hgg : wr.heap.size = g at m0 m1 mf0 mf1 HNB hWr ⊢
   go_loopw [10] (fun i wr => ∃ j : Nat, j ≤ 8 ∧ i = .int .u64 (j : Int) ∧ wr.cell? ⟨g, 0, none⟩ = some (.int .u64 (p : Int)) ∧ wr.cell? ⟨g, 1, none⟩ = some (.int .u64 ((clrK a n p r j : Nat) : Int)) ∧ wr.frozen? ⟨g, 1, none⟩ = false ∧ wr.ownsRow W.heap.size 82 2 (.slice sa sn sp) xs.length (rowOf .u64 xs) ∧ Below W.heap.size W wr) (fun i _ => 8 - (intOf i).toNat)
   case atStart => exact ⟨0, Nat.zero_le _, rfl, m0, m1, mf1, how3, hbW3⟩
   case round =>
    clear e0 e1 d0 d1 m0 m1 mf0 mf1 how3 hbW3
    obtain ⟨j, hj8, rfl, y0, y1, yf, howr, hbq⟩ := hrel
    by_cases hj : j < 8
    ·obtain ⟨pj, hpj⟩ : ∃ t, t = p + j := ⟨_, rfl⟩
     have K := K53.out pj wr (by have := HLR.out; omega)
     have x1 : IntKind.u64.wrap ((p : Int) + (j : Int)) = (pj : Int) := by have := HLR.out; rw [IntKind.wrap_u64]; omega
     have HST : Hid (clrK a n p r (j + 1) = if within pj a n then clr (clrK a n p r j) (255 * 2 ^ (8 * j)) else clrK a n p r j) := by show _ = _; rw [hpj]; rfl
     have hcl := clrK_lt a n p r HLR.out.1 j
     generalize clrK a n p r j = cw at y1 HST hcl
     cases hin : within pj a n with
     | false =>
      rw [hin] at K HST
      have HST2 : Hid (clrK a n p r (j + 1) = cw) := by have h := HST.out; show _ = _; simpa using h
      clear hpj hin hcl
      go_wp2_with fail
      refine K.mono ?_
      rintro e wz ⟨rfl, hz⟩
      subst hz
      go_wp2
      go_roundw
      case rel => exact ⟨j + 1, by omega, by go_num, y0, by rw [HST2.out]; exact y1, yf, howr, hbq⟩
      case measure => simp [intOf]; omega
     | true =>
      rw [hin] at K HST
      obtain ⟨nw, hnw⟩ : ∃ t, t = clr cw (255 * 2 ^ (8 * j)) := ⟨_, rfl⟩
      have HST2 : Hid (clrK a n p r (j + 1) = nw) := by have h := HST.out; show _ = _; rw [hnw]; simpa using h
      have x2 : IntKind.u64.wrap (8 * (j : Int)) = ((8 * j : Nat) : Int) := by rw [IntKind.wrap_u64]; omega
      have hlt := byte_shift_lt (x := 255) (by omega) hj
      have x3 : IntKind.u64.wrap (255 * 2 ^ min (8 * j) 64) = ((255 * 2 ^ (8 * j) : Nat) : Int) := by
       have h := shl64 255 (8 * j) (by omega)
       rw [Nat.mod_eq_of_lt hlt] at h
       exact h
      have x3' : IntKind.u64.wrap (255 * 2 ^ (8 * j)) = ((255 * 2 ^ (8 * j) : Nat) : Int) := by rw [Nat.min_eq_left (by omega)] at x3; exact x3
      obtain ⟨mk, hmk⟩ : ∃ t, t = 255 * 2 ^ (8 * j) := ⟨_, rfl⟩
      rw [← hmk] at x3 x3' hlt hnw
      have x4 : bits .andNot .u64 (cw : Int) (mk : Int) = (nw : Int) := by rw [andNot64 cw mk hcl hlt, hnw]
      have HO : Hid ((wr.setCell ⟨g, 1, none⟩ (.int .u64 (nw : Int))).ownsRow W.heap.size 82 2 (.slice sa sn sp) xs.length (rowOf .u64 xs)) := ownsRow_setCell_other howr HNB.out _
      have HB : Hid (Below W.heap.size W (wr.setCell ⟨g, 1, none⟩ (.int .u64 (nw : Int)))) := hbq.setCell hWr _
      have y0' : (wr.setCell ⟨g, 1, none⟩ (.int .u64 (nw : Int))).cell? ⟨g, 0, none⟩ = some (.int .u64 (p : Int)) := by rw [World.cell?_setCell_other _ _ _ _ (by simp)]; exact y0
      have y1' := World.cell?_setCell_same wr ⟨g, 1, none⟩ (.int .u64 (nw : Int)) y1
      have HYF : Hid ((wr.setCell ⟨g, 1, none⟩ (.int .u64 (nw : Int))).frozen? ⟨g, 1, none⟩ = false) := by show _ = _; rw [World.frozen?_setCell]; exact yf
      have HY : Hid ((wr.setCell ⟨g, 1, none⟩ (.int .u64 (nw : Int))).cell? ⟨g, 0, none⟩ = some (.int .u64 (p : Int)) ∧ (wr.setCell ⟨g, 1, none⟩ (.int .u64 (nw : Int))).cell? ⟨g, 1, none⟩ = some (.int .u64 (nw : Int))) := ⟨y0', y1'⟩
      clear hpj hin hcl hlt hmk hnw howr hbq y0' y1'
      go_wp2_with fail
      refine K.mono ?_
      rintro e wz ⟨rfl, hz⟩
      subst hz
      go_wp2
      go_roundw
      case rel => exact ⟨j + 1, by omega, by go_num, HY.out.1, by rw [HST2.out]; exact HY.out.2, HYF.out, HO.out, HB.out⟩
      case measure => simp [intOf]; omega
    ·obtain rfl : j = 8 := by omega
     have hWq := hbq.size
     have y2 := keep_cell hbq c0
     have y3 := keep_cell hbq c1
     generalize clrK a n p r 8 = cw at y1 HSN
     by_cases hz : cw = 0
     ·have HSN2 : Hid (rclearL a n (cs.take (m + 1)) = xs) := by have h := HSN.out; rw [hz, cellIf_zero, List.append_nil] at h; exact h
      subst hz
      go_wp2
      go_roundw
      case rel => exact ⟨m + 1, by omega, by go_num, by rw [HSN2.out]; exact howr, hbq⟩
      case measure => simp [intOf]; omega
     ·have HSN2 : Hid (rclearL a n (cs.take (m + 1)) = xs ++ [(p, (cw : Int))]) := by have h := HSN.out; rw [cellIf, if_neg hz] at h; exact h
      have hz' : ((cw : Int) != 0) = true := by simp; omega
      clear hz
      go_wp2_with (at_builtin; refine wpList_append_own _ rfl (.tmp 44) (.tmp 46) 23 rfl W.heap.size 82 i0 _ 2 16 Tryz.underlying23 HI.out.1 HI.out.2.1 HI.out.2.2.1 HI.out.2.2.2 rfl (by decide) _ _ _ rfl (own_alloc howr _) ⟨wr.heap.size, 0, none⟩ 1 1 [.int .u64 (p : Int), .int .u64 (cw : Int)] rfl rfl (cells2 _ _ _ _) (one2 _ _ _) (by unfold maxLen; omega) (by omega) (by simp; omega) ?_; intro sv w2 how2 hgr2 _; obtain ⟨sa2, sn2, sp2, rfl⟩ := own_shape how2; have R2 := app_own how2; have B2 : Below W.heap.size W w2 := app_below _ hbq hWq hgr2 (own_ge howr); have S2 := B2.size; have y20 := keep_cell B2 c0; have y21 := keep_cell B2 c1)
      go_roundw
      case rel => exact ⟨m + 1, by omega, by go_num, by rw [HSN2.out]; exact R2, B2⟩
      case measure => simp [intOf]; omega
  ·obtain rfl : m = cs.length := by omega
   rw [List.take_length, ← HZ.out] at how
   clear hlm
   have f0 := g0.keep hbr
   have f1 := g1.keep hbr
   have fh := h1.keep hbr
   have q0 := f0.cell
   have q1 := f1.cell
   have q2 := f0.frozen
   have q3 := f1.frozen
   have q4 := fh.frozen
   have y0 := keep_cell hbr c0
   have y1 := keep_cell hbr c1
   have hbw := below_tr hb hbr
   obtain ⟨WA, hWA⟩ : ∃ WA, wr.setCell ⟨w.heap.size, 1, none⟩ (.slice sa sn sp) = WA := ⟨_, rfl⟩
   have F0 : Free WA ⟨w.heap.size + 1, 0, none⟩ := by rw [← hWA]; exact f0.set _ _
   have F1 : Free WA ⟨w.heap.size + 1, 1, none⟩ := by rw [← hWA]; exact f1.set _ _
   have u0 : WA.cell? ⟨w.heap.size, 0, none⟩ = some (.slice am nm pm) := by rw [← hWA, World.cell?_setCell_other _ _ _ _ (by simp)]; exact y0
   have u1 : WA.cell? ⟨w.heap.size, 1, none⟩ = some (.slice sa sn sp) := by rw [← hWA]; exact World.cell?_setCell_same _ _ _ fh.cell
   have i0' := F0.cell
   have i1' := F1.cell
   have i2' := F0.frozen
   have i3' := F1.frozen
   have SM : Hid (World.ownsRow ((WA.setCell ⟨w.heap.size + 1, 0, none⟩ (.slice am nm pm)).setCell ⟨w.heap.size + 1, 1, none⟩ (.slice sa sn sp)) w.heap.size 82 2 (.slice sa sn sp) zs.length (rowOf .u64 zs)) := by
    rw [← hWA]
    exact res2_own (ownsRow_setCell_below how (by simp; omega) _) (by omega) (by omega)
   have SB : Hid (Below w.heap.size w ((WA.setCell ⟨w.heap.size + 1, 0, none⟩ (.slice am nm pm)).setCell ⟨w.heap.size + 1, 1, none⟩ (.slice sa sn sp))) := by
    rw [← hWA]
    exact below_set (below_set (below_set hbw (by simp) _) (by simp) _) (by simp) _
   clear how
   go_wp2
   (try simp only [Exit.inBlock, Exit.then])
   obtain ⟨r0, r1⟩ := res2 WA (w.heap.size + 1) (.slice am nm pm) (.slice sa sn sp) F0 F1
   refine bodyPost_ret (v := .agg #[.slice am nm pm, .slice sa sn sp]) ?_ rfl ⟨_, rfl, SM.out, SB.out⟩
   rw [results_cell1 rfl]; simp [go_sem, r0, r1]
end Go.Proofs.YtkpmkgkfpikpfaaGreat
