/- What is proved here: slices of the guest's pages (numbers of 32 bits, and what may be done): what they hold, cut, joined, compared. -/
import Derived.Test.YtkpmkgkfpikpfaaGreatSl
import Derived.Test.YtkpmkgkfpikpfaaGreatCopied
import Derived.Test.YtkpmkgkfpikpfaaGreatHeld
import Derived.Test.YtkpmkgkfpikpfaaGreatSpan
import Derived.Test.YtkpmkgkfpikpfaaGreatPlain
import Derived.LoopTactic
namespace Go.Proofs.YtkpmkgkfpikpfaaGreat.Pg
open Go.RowKit
set_option linter.unusedVariables false
set_option maxRecDepth 100000
def Sl (k : IntKind) (w : World) (v : Value) (xs : List (Nat × Int)) : Prop :=
 ∃ ao cap, v = .slice ao xs.length cap ∧ xs.length ≤ cap ∧ cap ≤ 9223372036854775807 ∧ (ao = none → cap = 0) ∧
  ∀ i (h : i < xs.length), ∃ b o, ao = some ⟨b, o, none⟩ ∧ w.cell? ⟨b, o + i * 2, none⟩ = some (.int .u32 (xs[i].1 : Int)) ∧ w.cell? ⟨b, o + i * 2 + 1, none⟩ = some (.int k xs[i].2)

theorem Sl.keep {k : IntKind} {w w' : World} {v : Value} {xs : List (Nat × Int)} (h : Sl k w v xs) (hb : Below w.heap.size w w') : Sl k w' v xs := by
 obtain ⟨ao, cap, rfl, h1, h2, h3, h4⟩ := h
 refine ⟨ao, cap, rfl, h1, h2, h3, fun i hi => ?_⟩
 obtain ⟨b, o, e, c0, c1⟩ := h4 i hi
 exact ⟨b, o, e, keep_cell hb c0, keep_cell hb c1⟩

theorem cut_to22 (ao : Option Addr) (n cap f : Nat) (hf : f ≤ n) (hn : n ≤ cap) (hcap : cap ≤ 9223372036854775807) (h0 : ao = none → cap = 0) (w : World) :
  (Instr.slice 27 (.slice ao n cap) none (some (.int .i64 (f : Int))) none).run Tryz.prog w = .ok (.slice ao f cap) w := by
 cases ao with
 | none =>
  obtain rfl := h0 rfl
  obtain rfl : n = 0 := by omega
  obtain rfl : f = 0 := by omega
  simp [Instr.slice, go_sem]
 | some a =>
  simp [Instr.slice, go_sem]
  intro h; omega
theorem cut_from22 (ao : Option Addr) (n cap f : Nat) (hf : f ≤ n) (hn : n ≤ cap) (hcap : cap ≤ 9223372036854775807) (h0 : ao = none → cap = 0) (w : World) :
  (Instr.slice 27 (.slice ao n cap) (some (.int .i64 (f : Int))) none none).run Tryz.prog w = .ok (.slice (if cap = f then ao else ao.map (fun a => a.add (f * 2))) (n - f) (cap - f)) w := by
 cases ao with
 | none =>
  obtain rfl := h0 rfl
  obtain rfl : n = 0 := by omega
  obtain rfl : f = 0 := by omega
  simp [Instr.slice, go_sem]
 | some a =>
  simp [Instr.slice, go_sem]
  intro h; omega
theorem Sl.to22 {k : IntKind} {w : World} {v : Value} {xs : List (Nat × Int)} (h : Sl k w v xs) (f : Nat) (hf : f ≤ xs.length) :
  ∃ v', (∀ w', (Instr.slice 27 v none (some (.int .i64 (f : Int))) none).run Tryz.prog w' = .ok v' w') ∧ Sl k w v' (xs.take f) ∧ ∃ ao n cap, v' = .slice ao n cap := by
 obtain ⟨ao, cap, rfl, h1, h2, h3, h4⟩ := h
 refine ⟨.slice ao f cap, fun w' => cut_to22 ao _ cap f hf h1 h2 h3 w', ⟨ao, cap, by simp [Nat.min_eq_left hf], by simp; omega, h2, h3, fun i hi => ?_⟩, _, _, _, rfl⟩
 simp at hi
 obtain ⟨b, o, e, c0, c1⟩ := h4 i (by omega)
 exact ⟨b, o, e, by simpa using c0, by simpa using c1⟩
theorem Sl.from22 {k : IntKind} {w : World} {v : Value} {xs : List (Nat × Int)} (h : Sl k w v xs) (f : Nat) (hf : f ≤ xs.length) :
  ∃ v', (∀ w', (Instr.slice 27 v (some (.int .i64 (f : Int))) none none).run Tryz.prog w' = .ok v' w') ∧ Sl k w v' (xs.drop f) ∧ ∃ ao n cap, v' = .slice ao n cap := by
 obtain ⟨ao, cap, rfl, h1, h2, h3, h4⟩ := h
 refine ⟨_, fun w' => cut_from22 ao _ cap f hf h1 h2 h3 w', ⟨(if cap = f then ao else ao.map (fun a => a.add (f * 2))), cap - f, by simp, by simp; omega, by omega, ?_, fun i hi => ?_⟩, _, _, _, rfl⟩
 ·intro h
  split at h
  ·omega
  ·simp at h; have := h3 h; omega
 ·simp at hi
  obtain ⟨b, o, e, c0, c1⟩ := h4 (f + i) (by omega)
  refine ⟨b, o + f * 2, ?_, ?_, ?_⟩
  ·rw [if_neg (by omega), e]; simp [Addr.add]
  ·rw [show o + f * 2 + i * 2 = o + (f + i) * 2 by omega]; simpa using c0
  ·rw [show o + f * 2 + i * 2 = o + (f + i) * 2 by omega]; simpa using c1
theorem cut_mid22 (ao : Option Addr) (n cap f t : Nat) (hft : f ≤ t) (ht : t ≤ n) (hn : n ≤ cap) (hcap : cap ≤ 9223372036854775807) (h0 : ao = none → cap = 0) (w : World) :
  (Instr.slice 27 (.slice ao n cap) (some (.int .i64 (f : Int))) (some (.int .i64 (t : Int))) none).run Tryz.prog w = .ok (.slice (if cap = f then ao else ao.map (fun a => a.add (f * 2))) (t - f) (cap - f)) w := by
 cases ao with
 | none =>
  obtain rfl := h0 rfl
  obtain rfl : n = 0 := by omega
  obtain rfl : t = 0 := by omega
  obtain rfl : f = 0 := by omega
  simp [Instr.slice, go_sem]
 | some a =>
  simp [Instr.slice, go_sem]
  rw [if_pos (by omega), if_pos hft]
theorem Sl.mid22 {k : IntKind} {w : World} {v : Value} {xs : List (Nat × Int)} (h : Sl k w v xs) (f t : Nat) (hft : f ≤ t) (ht : t ≤ xs.length) :
  ∃ v', (∀ w', (Instr.slice 27 v (some (.int .i64 (f : Int))) (some (.int .i64 (t : Int))) none).run Tryz.prog w' = .ok v' w') ∧ Sl k w v' ((xs.take t).drop f) := by
 obtain ⟨ao, cap, rfl, h1, h2, h3, h4⟩ := h
 refine ⟨_, fun w' => cut_mid22 ao _ cap f t hft ht h1 h2 h3 w', ⟨(if cap = f then ao else ao.map (fun a => a.add (f * 2))), cap - f, by simp [Nat.min_eq_left ht], by simp; omega, by omega, ?_, fun i hi => ?_⟩⟩
 ·intro h
  split at h
  ·omega
  ·simp at h; have := h3 h; omega
 ·simp at hi
  obtain ⟨b, o, e, c0, c1⟩ := h4 (f + i) (by omega)
  refine ⟨b, o + f * 2, ?_, ?_, ?_⟩
  ·rw [if_neg (by omega), e]; simp [Addr.add]
  ·rw [show o + f * 2 + i * 2 = o + (f + i) * 2 by omega]; simpa using c0
  ·rw [show o + f * 2 + i * 2 = o + (f + i) * 2 by omega]; simpa using c1
theorem info54 : (Tryz.prog.info? 53).map (fun i => (i.zero, i.size, i.bytes)) = some (some (.agg #[.int .u32 0, .int .i64 0]), 2, 16) := by kernel_rfl
set_option maxHeartbeats 1000000 in
set_option maxRecDepth 100000 in
theorem grow58 (n : Nat) (w : World) (hn : n ≤ 1073741824) :
  Calls Tryz.prog 92 #[.slice none 0 0, .int .i64 (n : Int)] w fun e w' => ∃ v, e = .returned v ∧ w'.ownsRow w.heap.size 53 2 v 0 [] ∧ Below w.heap.size w w' := by
 by_cases h0 : n = 0
 ·subst h0
  go_enter Tryz.func92, Tryz.ntmps92
  go_wp2
  go_ret
  exact ⟨_, rfl, World.ownsRow_nil _ _ _ _, Below.refl _ _⟩
 obtain ⟨i0, hi, hz0, hz1, hz2⟩ := info_parts info54
 have hold : (Builtin.firstCells i0.size 0 (.slice none 0 0)).run Tryz.prog w.drew = .ok ([] : List Value).toArray w.drew := run_firstCells_none w.drew i0.size 0 0 0
 have hrz : ∀ ty, (Builtin.append_ #[27, 3] ty #[.slice none 0 0, .int .i64 (n : Int)]).run Tryz.prog w =
   .ok (.slice (some ⟨w.heap.size, 0, none⟩) n (grownCap w n 0 53)) (w.drew.alloc (.cells (Builtin.zeroCells #[.int .u32 0, .int .i64 0] n ++ Builtin.zeroCells #[.int .u32 0, .int .i64 0] (grownCap w n 0 53 - n)) 53)) := fun ty => by
  have h := Lib.run_append_grow_zeros w 27 3 ty 53 i0 _ .i64 .i64 Tryz.underlying27 Tryz.underlying3 hi hz0 none 0 0 [] hold n (by omega) (by omega) (by omega) (by omega) (by rw [hz2]; omega)
   (by rw [Nat.zero_add, hz2]; exact growslice_fits (by omega) (by omega))
  simpa [Value.cells] using h
 have hGn : n ≤ grownCap w n 0 53 := grownCap_ge w _ _ _
 have hG63 := grownCap_le_maxLen w n 0 53 (by unfold maxLen; omega)
 obtain ⟨G, hG⟩ : ∃ G, G = grownCap w n 0 53 := ⟨_, rfl⟩
 rw [← hG] at hrz hGn hG63
 clear hold hG hi hz0 hz1 hz2
 have HG : Hid (∀ cs : Array Value, cs.size = G * 2 → (w.drew.alloc (.cells cs 53)).ownsRow w.heap.size 53 2 (.slice (some ⟨w.heap.size, 0, none⟩) 0 G) 0 []) := fun cs hcs => by
  refine ⟨by simp, Or.inr ⟨w.heap.size, G, cs, rfl, Nat.le_refl _, ?_, by omega, hG63, hcs, by simp⟩⟩
  show (w.heap.push _)[w.heap.size]? = _
  simp
 unfold maxLen at hG63
 go_enter Tryz.func92, Tryz.ntmps92
 go_wp2_with (at_builtin; refine Lib.wpList_append_run _ rfl _ _ _ _ rfl _ _ rfl rfl _ _ (hrz _) ?_)
 go_ret
 refine ⟨_, rfl, HG.out _ ?_, ((Below.refl _ _).drew).alloc (Nat.le_refl _) _⟩
 simp [size_zeroCells]
 omega
def rowOf (k : IntKind) : List (Nat × Int) → List Value
 | [] => []
 | x :: xs => .int .u32 (x.1 : Int) :: .int k x.2 :: rowOf k xs
theorem rowOf_append (k : IntKind) : ∀ (xs ys : List (Nat × Int)), rowOf k (xs ++ ys) = rowOf k xs ++ rowOf k ys
 | [], _ => rfl
 | x :: xs, ys => by simp [rowOf, rowOf_append k xs ys]
theorem rowOf_length (k : IntKind) : ∀ (xs : List (Nat × Int)), (rowOf k xs).length = xs.length * 2
 | [] => rfl
 | x :: xs => by simp [rowOf, rowOf_length k xs]; omega
theorem rowOf_one (k : IntKind) : ∀ (xs : List (Nat × Int)), ∀ u ∈ rowOf k xs, u.oneCell' = true
 | [], u, h => by simp [rowOf] at h
 | x :: xs, u, h => by
  simp only [rowOf, List.mem_cons] at h
  rcases h with rfl | rfl | h
  iterate 2
   ·rfl
  ·exact rowOf_one k xs u h
theorem rowOf_even (k : IntKind) : ∀ (xs : List (Nat × Int)) (i : Nat) (h : i < xs.length), (rowOf k xs)[i * 2]? = some (.int .u32 (xs[i].1 : Int)) ∧ (rowOf k xs)[i * 2 + 1]? = some (.int k xs[i].2)
 | [], i, h => by simp at h
 | x :: xs, 0, _ => by simp [rowOf]
 | x :: xs, i + 1, h => by
  have := rowOf_even k xs i (by simpa using h)
  rw [show (i + 1) * 2 = i * 2 + 1 + 1 by omega]
  simpa [rowOf] using this
theorem rowOf_cells {k : IntKind} {w : World} {ad : Addr} {n cap : Nat} {xs : List (Nat × Int)} (h : Sl k w (.slice (some ad) n cap) xs) :
  ∀ j u, (rowOf k xs)[j]? = some u → w.cell? (ad.add j) = some u := by
 obtain ⟨ao, cap, hv, h1, h2, h3, h4⟩ := h
 simp only [Value.slice.injEq] at hv
 obtain ⟨rfl, rfl, rfl⟩ := hv
 intro j u hj
 have hjl : j < xs.length * 2 := by
  rw [← rowOf_length k xs]
  exact (List.getElem?_eq_some_iff.1 hj).1
 obtain ⟨b, o, e, c0, c1⟩ := h4 (j / 2) (by omega)
 obtain ⟨r0, r1⟩ := rowOf_even k xs (j / 2) (by omega)
 simp only [Option.some.injEq] at e
 subst e
 rcases Nat.mod_two_eq_zero_or_one j with hm | hm
 ·rw [show j / 2 * 2 = j by omega] at r0 c0
  rw [r0] at hj
  rw [← hj]
  rw [add_pl]; exact c0
 ·rw [show j / 2 * 2 + 1 = j by omega] at r1
  rw [show o + j / 2 * 2 + 1 = o + j by omega] at c1
  rw [r1] at hj
  rw [← hj]
  rw [add_pl]; exact c1
theorem own_sl {k : IntKind} {w : World} {base e : Nat} {v : Value} {xs : List (Nat × Int)} (h : w.ownsRow base e 2 v xs.length (rowOf k xs)) : Sl k w v xs := by
 obtain ⟨hl, ⟨rfl, h0⟩ | ⟨g, cap, cur, rfl, hb, hh, hn, hc, hcs, hx⟩⟩ := h
 ·refine ⟨none, 0, by rw [h0], by omega, by omega, fun _ => rfl, fun i hi => by omega⟩
 ·refine ⟨some ⟨g, 0, none⟩, cap, rfl, hn, (by unfold maxLen at hc; omega), (fun h => by cases h), fun i hi => ⟨g, 0, rfl, ?_, ?_⟩⟩
  ·obtain ⟨r0, r1⟩ := rowOf_even k xs i hi
   rw [← hx, List.getElem?_take] at r0
   split at r0
   ·simp only [World.cell?, hh]; simpa using r0
   ·simp at r0
  ·obtain ⟨r0, r1⟩ := rowOf_even k xs i hi
   rw [← hx, List.getElem?_take] at r1
   split at r1
   ·simp only [World.cell?, hh]; simpa using r1
   ·simp at r1
set_option maxHeartbeats 1000000 in
theorem concat39 (b k : Nat) (vs : Nat → Value) (xss : Nat → List (Nat × Int)) (w : World) (hk : k ≤ 8) (hn : (joined xss k).length ≤ 1073741824)
  (hv : ∀ i, i < k → w.cell? ⟨b, i, none⟩ = some (vs i) ∧ Sl .i64 w (vs i) (xss i)) :
  Calls Tryz.prog 77 #[.slice (some ⟨b, 0, none⟩) k k] w fun e w' => ∃ v, e = .returned v ∧ w'.ownsRow w.heap.size 53 2 v (joined xss k).length (rowOf .i64 (joined xss k)) ∧ Below w.heap.size w w' := by
 have HV : Hid _ := hv
 have HJ : Hid (∀ m, m ≤ k → (joined xss m).length ≤ 1073741824) := fun m hm => Nat.le_trans (joined_le xss m k hm) hn
 clear hv
 obtain ⟨i0, hi, hz0, hz1, hz2⟩ := info_parts info54
 have hin : Hid (Tryz.prog.info? 53 = some i0 ∧ i0.zero = some (.agg #[.int .u32 0, .int .i64 0]) ∧ i0.size = 2 ∧ i0.bytes = 16) := ⟨hi, hz0, hz1, hz2⟩
 clear hi hz0 hz1 hz2
 go_enter Tryz.func77, Tryz.ntmps77
 go_wp2
 go_loopw [3, 11] (fun s i wr => ∃ m : Nat, m ≤ k ∧ i = .int .i64 (m : Int) ∧ s = .int .i64 ((joined xss m).length : Int) ∧ w = wr) (fun _ i _ => k - (intOf i).toNat)
 case atStart => exact ⟨0, Nat.zero_le _, rfl, rfl, rfl⟩
 case round =>
  obtain ⟨m, hm, rfl, rfl, rfl⟩ := hrel
  by_cases hmk : m < k
  ·obtain ⟨cv, ao, cap, hvm, h1, h2, h3, h4⟩ := HV.out m hmk
   rw [hvm] at cv
   have l0 := HJ.out m hm
   have l1 := HJ.out (m + 1) hmk
   simp only [joined, List.length_append] at l1
   clear hvm h1 h2 h3 h4
   go_wp2
   go_roundw
   case rel => exact ⟨m + 1, by omega, by go_num, by simp [joined], by first | rfl | trivial⟩
   case measure => simp [intOf]; omega
  ·obtain rfl : m = k := by omega
   go_wp2_with fail
   refine (grow58 _ _ (HJ.out m (Nat.le_refl _))).mono ?_
   rintro e w1 ⟨v, rfl, hown, hb⟩
   go_wp2
   go_loopw [6, 27] (fun s i wr => ∃ j : Nat, j ≤ m ∧ i = .int .i64 (j : Int) ∧ wr.ownsRow w.heap.size 53 2 s (joined xss j).length (rowOf .i64 (joined xss j)) ∧ Below w.heap.size w wr) (fun _ i _ => m - (intOf i).toNat)
   case atStart => exact ⟨0, Nat.zero_le _, rfl, hown, hb⟩
   case round =>
    obtain ⟨j, hj, rfl, hown, hb⟩ := hrel
    by_cases hjk : j < m
    ·obtain ⟨cv, hsl⟩ := HV.out j hjk
     have cv := keep_cell hb cv
     have hsl := hsl.keep hb
     obtain ⟨hi, hz0, hz1, hz2⟩ := hin.out
     have l1 := HJ.out (j + 1) hjk
     simp only [joined, List.length_append] at l1
     have hsz := hb.size
     obtain ⟨ao, cap, hvj, h1, h2, h3, h4⟩ := id hsl
     rw [hvj] at cv hsl
     clear hvj h4
     cases ao with
     | none =>
      obtain rfl := h3 rfl
      have hz : xss j = [] := List.eq_nil_of_length_eq_zero (by omega)
      rw [hz] at cv
      clear hsl h1 h2 h3
      go_wp2_with (at_builtin; refine wpList_append_own_none rfl (.tmp 31) (.tmp 32) 27 rfl w.heap.size 53 i0 2 Tryz.underlying27 hi _ _ _ rfl hown rfl ?_)
      go_roundw
      case rel => exact ⟨j + 1, by omega, by go_num, by simp only [joined, hz, List.append_nil]; exact hown, hb⟩
      case measure => simp [intOf]; omega
     | some ad =>
      have hcs := rowOf_cells hsl
      have HC : Hid _ := hcs
      clear hcs hsl h3 h1 h2
      go_wp2_with (at_builtin; refine wpList_append_own _ rfl (.tmp 31) (.tmp 32) 27 rfl w.heap.size 53 i0 _ 2 16 Tryz.underlying27 hi hz0 hz1 hz2 rfl (by decide) _ _ _ rfl hown ad (xss j).length cap (rowOf .i64 (xss j)) rfl (rowOf_length _ _) HC.out (rowOf_one _ _) (by unfold maxLen; omega) (by omega) hsz ?_; intro v' w2 hown' hgrow _)
      have R : w2.ownsRow w.heap.size 53 2 v' (joined xss (j + 1)).length (rowOf .i64 (joined xss (j + 1))) := by
       simp only [joined, rowOf_append, List.length_append]; exact hown'
      have R2 : Below w.heap.size w w2 := hb.grown hgrow hsz (own_ge hown)
      clear hown hown' hgrow HC hb
      go_wp2
      go_roundw
      case rel => exact ⟨j + 1, by omega, by go_num, R, R2⟩
      case measure => simp [intOf]; omega
    ·obtain rfl : j = m := by omega
     go_wp2
     go_ret
     exact ⟨_, rfl, hown, hb⟩
theorem cat39_1 (b : Nat) (v0 : Value) (xs : List (Nat × Int)) (w : World) (c0 : w.cell? ⟨b, 0, none⟩ = some v0) (h0 : Sl .i64 w v0 xs) (hl : xs.length ≤ 1073741824) :
  Calls Tryz.prog 77 #[.slice (some ⟨b, 0, none⟩) 1 1] w fun e w' => ∃ v, e = .returned v ∧ w'.ownsRow w.heap.size 53 2 v xs.length (rowOf .i64 xs) ∧ Below w.heap.size w w' := by
 have h := concat39 b 1 (fun _ => v0) (fun _ => xs) w (by omega) (by simpa [joined] using hl) (fun i hi => by
  obtain rfl : i = 0 := by omega
  exact ⟨c0, h0⟩)
 simpa [joined] using h
theorem cat39_2 (b : Nat) (v0 v1 : Value) (xs ys : List (Nat × Int)) (w : World) (c0 : w.cell? ⟨b, 0, none⟩ = some v0) (c1 : w.cell? ⟨b, 1, none⟩ = some v1) (h0 : Sl .i64 w v0 xs) (h1 : Sl .i64 w v1 ys) (hl : (xs ++ ys).length ≤ 1073741824) :
  Calls Tryz.prog 77 #[.slice (some ⟨b, 0, none⟩) 2 2] w fun e w' => ∃ v, e = .returned v ∧ w'.ownsRow w.heap.size 53 2 v (xs ++ ys).length (rowOf .i64 (xs ++ ys)) ∧ Below w.heap.size w w' := by
 have h := concat39 b 2 (fun i => match i with | 0 => v0 | _ => v1) (fun i => match i with | 0 => xs | _ => ys) w (by omega) (by simpa [joined] using hl) (fun i hi => by
  match i, hi with
  | 0, _ => exact ⟨c0, h0⟩
  | 1, _ => exact ⟨c1, h1⟩)
 simpa [joined] using h
theorem cat39_3 (b : Nat) (v0 v1 v2 : Value) (xs ys zs : List (Nat × Int)) (w : World) (c0 : w.cell? ⟨b, 0, none⟩ = some v0) (c1 : w.cell? ⟨b, 1, none⟩ = some v1) (c2 : w.cell? ⟨b, 2, none⟩ = some v2) (h0 : Sl .i64 w v0 xs) (h1 : Sl .i64 w v1 ys) (h2 : Sl .i64 w v2 zs) (hl : (xs ++ ys ++ zs).length ≤ 1073741824) :
  Calls Tryz.prog 77 #[.slice (some ⟨b, 0, none⟩) 3 3] w fun e w' => ∃ v, e = .returned v ∧ w'.ownsRow w.heap.size 53 2 v (xs ++ ys ++ zs).length (rowOf .i64 (xs ++ ys ++ zs)) ∧ Below w.heap.size w w' := by
 have h := concat39 b 3 (fun i => match i with | 0 => v0 | 1 => v1 | _ => v2) (fun i => match i with | 0 => xs | 1 => ys | _ => zs) w (by omega) (by simpa [joined] using hl) (fun i hi => by
  match i, hi with
  | 0, _ => exact ⟨c0, h0⟩
  | 1, _ => exact ⟨c1, h1⟩
  | 2, _ => exact ⟨c2, h2⟩)
 simpa [joined] using h
theorem one2 (k : IntKind) (a b : Int) : ∀ u ∈ [Value.int .u32 a, Value.int k b], u.oneCell' = true := by
 intro u hu; simp at hu; rcases hu with rfl | rfl <;> rfl
theorem app_own {k : IntKind} {w : World} {B e : Nat} {v : Value} {xs : List (Nat × Int)} {p : Nat} {r : Int} (h : w.ownsRow B e 2 v (xs.length + 1) (rowOf k xs ++ [.int .u32 (p : Int), .int k r])) :
  w.ownsRow B e 2 v (xs ++ [(p, r)]).length (rowOf k (xs ++ [(p, r)])) := by
 rw [rowOf_append]
 simpa [rowOf] using h
theorem rowOf_set (k : IntKind) : ∀ (xs : List (Nat × Int)) (i p : Nat) (r : Int), ((rowOf k xs).set (i * 2) (.int .u32 (p : Int))).set (i * 2 + 1) (.int k r) = rowOf k (xs.set i (p, r))
 | [], i, p, r => by simp [rowOf]
 | x :: xs, 0, p, r => by simp [rowOf]
 | x :: xs, i + 1, p, r => by
  have := rowOf_set k xs i p r
  rw [show (i + 1) * 2 = i * 2 + 1 + 1 by omega]
  simp only [rowOf, List.set_cons_succ]
  rw [this]
theorem rowOf_made (n : Nat) : (madeCells #[.int .u32 0, .int .i64 0] (n * 2)).toList = rowOf .i64 (List.replicate n (0, 0)) := by
 apply List.ext_getElem?
 intro j
 by_cases h : j < n * 2
 ·obtain ⟨r0, r1⟩ := rowOf_even .i64 (List.replicate n (0, 0)) (j / 2) (by simp; omega)
  rcases Nat.mod_two_eq_zero_or_one j with hm | hm
  ·rw [show j / 2 * 2 = j by omega] at r0
   rw [r0]
   simp [madeCells, h, hm]
  ·rw [show j / 2 * 2 + 1 = j by omega] at r1
   rw [r1]
   simp [madeCells, h, hm]
 ·rw [List.getElem?_eq_none (by simp [madeCells]; omega), List.getElem?_eq_none (by rw [rowOf_length]; simp; omega)]
end Go.Proofs.YtkpmkgkfpikpfaaGreat.Pg
namespace Go.Proofs.YtkpmkgkfpikpfaaGreat
open Go.RowKit
set_option linter.unusedVariables false
set_option maxRecDepth 100000
theorem box4 (w : World) (x0 x1 x2 x3 : Value) (t : Nat) : ∃ W, w.alloc (.cells #[x0, x1, x2, x3] t) = W ∧ Below w.heap.size w W ∧ W.heap.size = w.heap.size + 1 ∧
  W.cell? ⟨w.heap.size, 0, none⟩ = some x0 ∧ W.cell? ⟨w.heap.size, 1, none⟩ = some x1 ∧ W.cell? ⟨w.heap.size, 2, none⟩ = some x2 ∧ W.cell? ⟨w.heap.size, 3, none⟩ = some x3 ∧
  Free W ⟨w.heap.size, 0, none⟩ ∧ Free W ⟨w.heap.size, 1, none⟩ ∧ Free W ⟨w.heap.size, 2, none⟩ ∧ Free W ⟨w.heap.size, 3, none⟩ := by
 have hc : ∀ i x, #[x0, x1, x2, x3][i]? = some x → (w.alloc (.cells #[x0, x1, x2, x3] t)).cell? ⟨w.heap.size, i, none⟩ = some x := fun i x hx => cell_newA w _ t _ i x rfl hx
 have hf : ∀ i, (w.alloc (.cells #[x0, x1, x2, x3] t)).frozen? ⟨w.heap.size, i, none⟩ = false := fun i => by rw [World.frozen?_alloc_at _ _ _ _ (by simp)]
 exact ⟨_, rfl, (Below.refl _ _).alloc (Nat.le_refl _) _, by simp, hc 0 _ rfl, hc 1 _ rfl, hc 2 _ rfl, hc 3 _ rfl, ⟨⟨_, hc 0 _ rfl⟩, hf 0⟩, ⟨⟨_, hc 1 _ rfl⟩, hf 1⟩, ⟨⟨_, hc 2 _ rfl⟩, hf 2⟩, ⟨⟨_, hc 3 _ rfl⟩, hf 3⟩⟩
def gpagesOk (first n : Nat) : Bool := decide (n ≠ 0 ∧ first + n ≤ 1048576)
set_option maxHeartbeats 1000000 in
theorem garePages38 (first n : Nat) (h1 : first < 4294967296) (h2 : n < 4294967296) (w : World) :
  Calls Tryz.prog 51 #[.int .u32 (first : Int), .int .u32 (n : Int)] w fun e w' => e = .returned (.bool (gpagesOk first n)) ∧ w' = w := by
 by_cases hn : n = 0
 ·subst hn
  have HR : Hid (gpagesOk first 0 = false) := by simp [Hid, gpagesOk]
  go_enter Tryz.func51, Tryz.ntmps51
  go_wp2
  go_ret
  exact ⟨by rw [HR.out]; rfl, rfl⟩
 ·have x1 : IntKind.u64.wrap (first : Int) = (first : Int) := by rw [IntKind.wrap_u64]; omega
  have x2 : IntKind.u64.wrap (n : Int) = (n : Int) := by rw [IntKind.wrap_u64]; omega
  have x3 : IntKind.u64.wrap ((first : Int) + (n : Int)) = ((first + n : Nat) : Int) := by rw [IntKind.wrap_u64]; omega
  have x0 : ((n : Int) != 0) = true := by simp; omega
  have HR : Hid (gpagesOk first n = decide (first + n ≤ 1048576)) := by simp [Hid, gpagesOk, hn]
  obtain ⟨q, hq⟩ : ∃ q, q = first + n := ⟨_, rfl⟩
  rw [← hq] at x3 HR
  clear hn hq
  by_cases hle : q ≤ 1048576
  ·have y1 : (q : Int) ≤ 1048576 := by omega
   rw [decide_eq_true hle] at HR
   clear hle
   go_enter Tryz.func51, Tryz.ntmps51
   go_wp2
   go_ret
   exact ⟨by rw [HR.out]; rfl, rfl⟩
  ·have y1 : ¬ (q : Int) ≤ 1048576 := by omega
   rw [decide_eq_false hle] at HR
   clear hle
   go_enter Tryz.func51, Tryz.ntmps51
   go_wp2
   go_ret
   exact ⟨by rw [HR.out]; rfl, rfl⟩
set_option maxHeartbeats 1000000 in
theorem gisProt39 (prot : Int) (w : World) : Calls Tryz.prog 52 #[.int .i64 prot] w fun e w' => e = .returned (.bool (protOk prot)) ∧ w' = w := by
 by_cases h1 : 0 ≤ prot
 ·by_cases h2 : prot ≤ 7
  ·have HR : Hid (protOk prot = true) := by simp [Hid, protOk, h1, h2]
   go_enter Tryz.func52, Tryz.ntmps52
   go_wp2
   go_ret
   exact ⟨by rw [HR.out]; rfl, rfl⟩
  ·have HR : Hid (protOk prot = false) := by simp [Hid, protOk, h2]
   go_enter Tryz.func52, Tryz.ntmps52
   go_wp2
   go_ret
   exact ⟨by rw [HR.out]; rfl, rfl⟩
 ·have HR : Hid (protOk prot = false) := by simp [Hid, protOk, h1]
  go_enter Tryz.func52, Tryz.ntmps52
  go_wp2
  go_ret
  exact ⟨by rw [HR.out]; rfl, rfl⟩
set_option maxHeartbeats 1000000 in
theorem ghostPage59 (b k : Nat) (hb : b ≤ 4611686018427387904) (hk : k < 4294967296) (w : World) :
  Calls Tryz.prog 73 #[.int .u64 (b : Int), .int .u32 (k : Int)] w fun e w' => e = .returned (.int .u64 ((b / 16384 + k : Nat) : Int)) ∧ w' = w := by
 have x1 : IntKind.u64.wrap ((b : Int) / 16384) = ((b / 16384 : Nat) : Int) := by rw [IntKind.wrap_u64]; omega
 have x2 : IntKind.u64.wrap (k : Int) = (k : Int) := by rw [IntKind.wrap_u64]; omega
 have x3 : IntKind.u64.wrap (((b / 16384 : Nat) : Int) + (k : Int)) = ((b / 16384 + k : Nat) : Int) := by rw [IntKind.wrap_u64]; omega
 obtain ⟨q, hq⟩ : ∃ q, q = b / 16384 + k := ⟨_, rfl⟩
 obtain ⟨d, hd⟩ : ∃ q, q = b / 16384 := ⟨_, rfl⟩
 rw [← hd] at x1 x3 hq
 rw [← hq] at x3
 rw [← hd, ← hq]
 clear hq hd
 go_enter Tryz.func73, Tryz.ntmps73
 go_wp2
 go_ret
 exact ⟨rfl, rfl⟩
set_option maxHeartbeats 1000000 in
theorem gplace16 (vm vc vp : Value) (b a : Nat) (hb : b ≤ 4611686018427387904) (ha : a < 4294967296) (w : World) (hm : ∃ a n p, vm = .slice a n p) (hc : ∃ a n p, vc = .slice a n p) (hp : ∃ a n p, vp = .slice a n p) :
  Calls Tryz.prog 102 #[.agg #[vm, vc, .int .u64 (b : Int), vp], .int .u32 (a : Int)] w fun e w' => e = .returned (.int .u64 ((b + a : Nat) : Int)) ∧ Below w.heap.size w w' := by
 obtain ⟨W, hW, hbb, hsz, c0, c1, c2, c3, _⟩ := box4 w vm vc (.int .u64 (b : Int)) vp 29
 obtain ⟨_, _, _, rfl⟩ := hm
 obtain ⟨_, _, _, rfl⟩ := hc
 obtain ⟨_, _, _, rfl⟩ := hp
 have x2 : IntKind.u64.wrap (a : Int) = (a : Int) := by rw [IntKind.wrap_u64]; omega
 have x3 : IntKind.u64.wrap ((b : Int) + (a : Int)) = ((b + a : Nat) : Int) := by rw [IntKind.wrap_u64]; omega
 obtain ⟨q, hq⟩ : ∃ q, q = b + a := ⟨_, rfl⟩
 rw [← hq] at x3
 rw [← hq]
 clear hq
 go_enter Tryz.func102, Tryz.ntmps102
 go_wp2

 go_ret
 exact ⟨rfl, hbb⟩
set_option maxHeartbeats 1000000 in
theorem isNaN75 (a : Nat) (w : World) : Calls Tryz.prog 113 #[.int .u32 (a : Int)] w fun e w' => e = .returned (.bool false) ∧ w' = w := by
 go_enter Tryz.func113, Tryz.ntmps113
 go_wp2
 go_ret
 exact ⟨rfl, rfl⟩
def cmpN (a b : Nat) : Int := if a < b then -1 else if b < a then 1 else 0
set_option maxHeartbeats 1000000 in
theorem compare64 (a b : Nat) (w : World) : Calls Tryz.prog 96 #[.int .u32 (a : Int), .int .u32 (b : Int)] w fun e w' => e = .returned (.int .i64 (cmpN a b)) ∧ w' = w := by
 have KA := isNaN75 a w
 have KB := isNaN75 b w
 by_cases h1 : a < b
 ·have HR : Hid (cmpN a b = -1) := by show _ = _; rw [cmpN, if_pos h1]
  have y1 : (a : Int) < (b : Int) := by omega
  go_enter Tryz.func96, Tryz.ntmps96
  go_wp2_with fail
  refine KA.mono ?_
  rintro e w1 ⟨rfl, rfl⟩
  go_wp2_with fail
  refine KB.mono ?_
  rintro e w2 ⟨rfl, rfl⟩
  go_wp2
  go_ret
  exact ⟨by rw [HR.out]; rfl, rfl⟩
 ·have y1 : ¬ (a : Int) < (b : Int) := by omega
  by_cases h2 : b < a
  ·have HR : Hid (cmpN a b = 1) := by show _ = _; rw [cmpN, if_neg h1, if_pos h2]
   have y2 : (b : Int) < (a : Int) := by omega
   go_enter Tryz.func96, Tryz.ntmps96
   go_wp2_with fail
   refine KA.mono ?_
   rintro e w1 ⟨rfl, rfl⟩
   go_wp2_with fail
   refine KB.mono ?_
   rintro e w2 ⟨rfl, rfl⟩
   go_wp2
   go_ret
   exact ⟨by rw [HR.out]; rfl, rfl⟩
  ·have HR : Hid (cmpN a b = 0) := by show _ = _; rw [cmpN, if_neg h1, if_neg h2]
   have y2 : ¬ (b : Int) < (a : Int) := by omega
   go_enter Tryz.func96, Tryz.ntmps96
   go_wp2_with fail
   refine KA.mono ?_
   rintro e w1 ⟨rfl, rfl⟩
   go_wp2_with fail
   refine KB.mono ?_
   rintro e w2 ⟨rfl, rfl⟩
   go_wp2
   go_ret
   exact ⟨by rw [HR.out]; rfl, rfl⟩
set_option maxHeartbeats 1000000 in
theorem searchc63 (p n : Nat) (r : Int) (w : World) : Calls Tryz.prog 108 #[.agg #[.int .u32 (p : Int), .int .i64 r], .int .u32 (n : Int)] w fun e w' => e = .returned (.int .i64 (cmpN p n)) ∧ Below w.heap.size w w' := by
 obtain ⟨W, hW, hb, hsz, c0, c1, _, _⟩ := box2 w (.int .u32 (p : Int)) (.int .i64 r) 53
 have K := compare64 p n W
 go_enter Tryz.func108, Tryz.ntmps108
 go_wp2_with fail
 refine K.mono ?_
 rintro e w1 ⟨rfl, rfl⟩
 go_wp2
 go_ret
 exact ⟨rfl, hb⟩
theorem lo_at {xs : List (Nat × Int)} (hs : Srt xs) (a i : Nat) (h : i < xs.length) : i < (lo xs a).length ↔ xs[i].1 < a := by
 have e := parts xs hs a a (Nat.le_refl _)
 have l := parts_len xs hs a a (Nat.le_refl _)
 constructor
 ·intro hi
  have h2 : xs[i]? = (lo xs a)[i]? := by
   conv => lhs; rw [e]
   rw [List.append_assoc, List.getElem?_append_left hi]
  rw [List.getElem?_eq_getElem h, List.getElem?_eq_getElem hi] at h2
  have h3 := Option.some.inj h2
  rw [h3]
  exact (lo_mem.1 (List.getElem_mem hi)).2
 ·intro hx
  apply Classical.byContradiction
  intro hi
  have h2 : xs[i]? = (mid xs a a ++ _root_.Go.Proofs.YtkpmkgkfpikpfaaGreat.hi xs a)[i - (lo xs a).length]? := by
   conv => lhs; rw [e]
   rw [List.append_assoc, List.getElem?_append_right (by omega)]
  have h4 : xs[i] ∈ mid xs a a ++ _root_.Go.Proofs.YtkpmkgkfpikpfaaGreat.hi xs a := by
   rw [List.getElem?_eq_getElem h] at h2
   exact List.mem_of_getElem? h2.symm
  rcases List.mem_append.1 h4 with g | g
  ·have := (mid_mem.1 g).2; omega
  ·have := (hi_mem.1 g).2; omega
def isIn (xs : List (Nat × Int)) (n : Nat) : Bool := xs.any (fun x => x.1 == n)
theorem isIn_at {xs : List (Nat × Int)} (hs : Srt xs) (n : Nat) (h : (lo xs n).length < xs.length) : isIn xs n = decide (xs[(lo xs n).length].1 = n) := by
 obtain ⟨m, hm⟩ : ∃ m, m = (lo xs n).length := ⟨_, rfl⟩
 have h' : m < xs.length := by omega
 have e : xs[(lo xs n).length] = xs[m] := by simp [hm]
 rw [e]
 have hge : n ≤ xs[m].1 := by
  have := (lo_at hs n m h').2
  omega
 rw [Bool.eq_iff_iff]
 simp only [isIn, List.any_eq_true, beq_iff_eq, decide_eq_true_eq]
 constructor
 ·rintro ⟨x, hx, e2⟩
  obtain ⟨j, hj, rfl⟩ := List.getElem_of_mem hx
  have q1 := (lo_at hs n j hj)
  have q2 : ¬ j < m := by omega
  by_cases q3 : j = m
  ·subst q3; exact e2
  ·have := List.pairwise_iff_getElem.1 hs m j h' hj (by omega)
   omega
 ·intro e2
  exact ⟨_, List.getElem_mem h', e2⟩
theorem isIn_end {xs : List (Nat × Int)} (hs : Srt xs) (n : Nat) (h : ¬ (lo xs n).length < xs.length) : isIn xs n = false := by
 rw [isIn, List.any_eq_false]
 intro x hx
 obtain ⟨j, hj, rfl⟩ := List.getElem_of_mem hx
 have := (lo_at hs n j hj)
 simp; omega
set_option maxHeartbeats 2000000 in
theorem bsearch62 (v : Value) (ps : List (Nat × Int)) (n : Nat) (w : World) (hp : Pg.Sl .i64 w v ps) (hs : Srt ps) (hl : ps.length ≤ 1073741824) :
  Calls Tryz.prog 107 #[v, .int .u32 (n : Int), .func (.func 108) #[] #[]] w fun e w' => e = .returned (.tuple #[.int .i64 (((lo ps n).length : Nat) : Int), .bool (isIn ps n)]) ∧ Below w.heap.size w w' := by
 obtain ⟨ao, cap, rfl, h1, h2, _, h4⟩ := hp
 have HX : Hid (∀ i (h : i < ps.length), ∃ b o, ao = some ⟨b, o, none⟩ ∧ w.cell? ⟨b, o + i * 2, none⟩ = some (.int .u32 (ps[i].1 : Int)) ∧ w.cell? ⟨b, o + i * 2 + 1, none⟩ = some (.int .i64 ps[i].2)) := h4
 have HA : Hid (∀ i (h : i < ps.length), i < (lo ps n).length ↔ ps[i].1 < n) := fun i h => lo_at hs n i h
 have HI : Hid (∀ h : (lo ps n).length < ps.length, isIn ps n = decide (ps[(lo ps n).length].1 = n)) := isIn_at hs n
 have HE : Hid (¬ (lo ps n).length < ps.length → isIn ps n = false) := isIn_end hs n
 have hml : (lo ps n).length ≤ ps.length := lo_len _ _
 generalize (lo ps n).length = m at HA HI HE hml ⊢
 generalize isIn ps n = bb at HI HE ⊢
 clear h4 hs
 go_enter Tryz.func107, Tryz.ntmps107
 go_wp2
 go_loopw [9, 10] (fun a b wr => ∃ i j : Nat, a = .int .i64 (i : Int) ∧ b = .int .i64 (j : Int) ∧ i ≤ m ∧ m ≤ j ∧ j ≤ ps.length ∧ Below w.heap.size w wr) (fun a b _ => (intOf b).toNat - (intOf a).toNat)
 case atStart => exact ⟨0, ps.length, rfl, rfl, Nat.zero_le _, hml, Nat.le_refl _, Below.refl _ _⟩
 case round =>
  obtain ⟨i, j, rfl, rfl, q1, q2, q3, hb⟩ := hrel
  by_cases hij : i < j
  ·obtain ⟨h, hh⟩ : ∃ h, h = (i + j) / 2 := ⟨_, rfl⟩
   have g1 : i ≤ h := by omega
   have g2 : h < j := by omega
   have g3 : h < ps.length := by omega
   have y1 : IntKind.u64.wrap ((i : Int) + (j : Int)) / 2 = (h : Int) := by rw [IntKind.wrap_u64]; omega
   have y2 : ((i : Int) + (j : Int)) / 2 = (h : Int) := by omega
   have y3 : IntKind.u64.wrap ((i : Int) + (j : Int)) = (i : Int) + (j : Int) := by rw [IntKind.wrap_u64]; omega
   obtain ⟨b, o, rfl, d0, d1⟩ := HX.out h g3
   have d0 := keep_cell hb d0
   have d1 := keep_cell hb d1
   have ha := HA.out h g3
   generalize ps[h].1 = p at d0 ha
   generalize ps[h].2 = r at d1
   have K := searchc63 p n r wr
   clear hh
   by_cases hp : h < m
   ·have e1 : cmpN p n = -1 := by rw [cmpN, if_pos (ha.1 hp)]
    rw [e1] at K
    clear ha
    go_wp2_with fail
    refine K.mono ?_
    rintro e w1 ⟨rfl, hb1⟩
    go_wp2
    go_roundw
    case rel => exact ⟨h + 1, j, by go_num, rfl, by omega, q2, q3, below_tr hb hb1⟩
    case measure => simp [intOf]; omega
   ·have e1 : ¬ cmpN p n < 0 := by
     have : ¬ p < n := fun c => hp (ha.2 c)
     rw [cmpN, if_neg this]
     split <;> decide
    generalize cmpN p n = cc at K e1
    clear ha
    go_wp2_with fail
    refine K.mono ?_
    rintro e w1 ⟨rfl, hb1⟩
    go_wp2
    go_roundw
    case rel => exact ⟨i, h, rfl, rfl, q1, by omega, by omega, below_tr hb hb1⟩
    case measure => simp [intOf]; omega
  ·obtain rfl : i = m := by omega
   by_cases hil : i < ps.length
   ·obtain ⟨b, o, rfl, d0, d1⟩ := HX.out i hil
    have d0 := keep_cell hb d0
    have d1 := keep_cell hb d1
    have hi := HI.out hil
    generalize ps[i].1 = p at d0 hi
    generalize ps[i].2 = r at d1
    have K := searchc63 p n r wr
    have HR : Hid ((cmpN p n == 0) = bb) := by
     show _ = _
     rw [hi, cmpN, Bool.eq_iff_iff]
     simp only [beq_iff_eq, decide_eq_true_eq]
     split
     ·constructor
      ·intro c; cases c
      ·omega
     ·split
      ·constructor
       ·intro c; cases c
       ·omega
      ·simp; omega
    have e1 := HR.out
    generalize cmpN p n = cc at K HR e1
    clear hi HI HE
    go_wp2_with fail
    refine K.mono ?_
    rintro e w1 ⟨rfl, hb1⟩
    go_wp2
    go_ret2
    exact ⟨rfl, below_tr hb hb1⟩
   ·have HR : Hid (bb = false) := HE.out hil
    obtain rfl : i = ps.length := by omega
    go_wp2
    go_ret2
    exact ⟨by rw [HR.out]; rfl, hb⟩
set_option maxHeartbeats 2000000 in
theorem gsearch37 (v : Value) (ps : List (Nat × Int)) (n : Nat) (w : World) (hp : Pg.Sl .i64 w v ps) (hs : Srt ps) (hl : ps.length ≤ 1073741824) :
  Calls Tryz.prog 89 #[v, .int .u32 (n : Int)] w fun e w' => e = .returned (.tuple #[.int .i64 (((lo ps n).length : Nat) : Int), .bool (isIn ps n)]) ∧ Below w.heap.size w w' := by
 have K := bsearch62 v ps n w hp hs hl
 obtain ⟨_, _, rfl, _⟩ := hp
 generalize (lo ps n).length = m at K ⊢
 generalize isIn ps n = bb at K ⊢
 go_enter Tryz.func89, Tryz.ntmps89
 go_wp2_with fail
 refine K.mono ?_
 rintro e w1 ⟨rfl, hb1⟩
 go_wp2
 go_ret2
 exact ⟨rfl, hb1⟩
theorem drop_lo {ps : List (Nat × Int)} (hs : Srt ps) (a c : Nat) (h : a < c) : (lo (ps.drop (lo ps a).length) c).length = (mid ps a (c - 1)).length ∧ Srt (ps.drop (lo ps a).length) := by
 have e := parts ps hs a (c - 1) (by omega)
 have e2 : ps.drop (lo ps a).length = mid ps a (c - 1) ++ hi ps (c - 1) := by
  conv => lhs; arg 2; rw [e]
  rw [List.append_assoc, List.drop_left]
 refine ⟨?_, List.Pairwise.sublist (List.drop_sublist _ _) hs⟩
 rw [e2, lo, List.filter_append]
 have f1 : (mid ps a (c - 1)).filter (fun x => decide (x.1 < c)) = mid ps a (c - 1) := List.filter_eq_self.2 (fun x hx => by have := (mid_mem.1 hx).2; simp; omega)
 have f2 : (hi ps (c - 1)).filter (fun x => decide (x.1 < c)) = [] := List.filter_eq_nil_iff.2 (fun x hx => by have := (hi_mem.1 hx).2; simp; omega)
 rw [f1, f2, List.append_nil]
set_option maxHeartbeats 2000000 in
theorem gspan67 (v : Value) (ps : List (Nat × Int)) (first n last : Nat) (w : World) (hp : Pg.Sl .i64 w v ps) (hs : Srt ps) (hl : ps.length ≤ 1073741824) (hn : n ≠ 0) (hf : first + n < 4294967296) (hla : last = first + n - 1) :
  Calls Tryz.prog 81 #[v, .int .u32 (first : Int), .int .u32 (n : Int)] w fun e w' => e = .returned (.tuple #[.int .i64 (((lo ps first).length : Nat) : Int), .int .i64 (((lo ps first).length + (mid ps first last).length : Nat) : Int)]) ∧ Below w.heap.size w w' := by
 have K1 := gsearch37 v ps first w hp hs hl
 obtain ⟨d1, d2⟩ := drop_lo hs first (first + n) (by omega)
 obtain ⟨v2, e2, s2, a2, n2, p2, rfl⟩ := hp.from22 (lo ps first).length (lo_len _ _)
 have K2 : Hid (∀ w', Below w.heap.size w w' → Calls Tryz.prog 89 #[.slice a2 n2 p2, .int .u32 ((first + n : Nat) : Int)] w' fun e w'' => e = .returned (.tuple #[.int .i64 (((mid ps first last).length : Nat) : Int), .bool (isIn (ps.drop (lo ps first).length) (first + n))]) ∧ Below w'.heap.size w' w'') := fun w' hb => by
  have h := gsearch37 _ _ (first + n) w' (s2.keep hb) d2 (by simp; omega)
  rw [d1, ← hla] at h
  exact h
 have hlen : (lo ps first).length + (mid ps first last).length ≤ ps.length := by
  have := parts_len ps hs first last (by omega)
  omega
 obtain ⟨av, nv, pv, rfl⟩ : ∃ a n p, v = .slice a n p := by obtain ⟨a, p, h, _⟩ := hp; exact ⟨_, _, _, h⟩
 have x1 : IntKind.u32.wrap ((first : Int) + (n : Int)) = ((first + n : Nat) : Int) := by rw [IntKind.wrap_u32]; omega
 generalize isIn (ps.drop (lo ps first).length) (first + n) = b2 at K2
 generalize isIn ps first = b1 at K1
 generalize (mid ps first last).length = m at K2 hlen ⊢
 generalize (lo ps first).length = f at K1 e2 hlen ⊢
 obtain ⟨q, hq⟩ : ∃ q, q = first + n := ⟨_, rfl⟩
 rw [← hq] at K2 x1
 clear hp hs hf hla hn s2 d1 d2 hq
 go_enter Tryz.func81, Tryz.ntmps81
 go_wp2_with fail
 refine K1.mono ?_
 rintro e w1 ⟨rfl, hb1⟩
 clear K1
 go_wp2_with fail
 refine (K2.out w1 hb1).mono ?_
 rintro e w2 ⟨rfl, hb2⟩
 go_wp2
 go_ret2
 exact ⟨by simp, below_tr hb1 hb2⟩
def protN (ps : List (Nat × Int)) (n : Nat) : Int := match ps.find? (fun x => x.1 == n) with | some x => x.2 | none => -1
theorem protN_in {ps : List (Nat × Int)} (hs : Srt ps) {x : Nat × Int} (hx : x ∈ ps) : protN ps x.1 = x.2 := by rw [protN, find_mem hs hx]
theorem protN_no {ps : List (Nat × Int)} {n : Nat} (h : isIn ps n = false) : protN ps n = -1 := by
 rw [protN, find_none]
 intro x hx e
 rw [isIn, List.any_eq_false] at h
 exact absurd e (by simpa using h x hx)
set_option maxHeartbeats 2000000 in
theorem gprot14 (vm vc vp : Value) (b n : Nat) (ps : List (Nat × Int)) (w : World) (hm : ∃ a n p, vm = .slice a n p) (hc : ∃ a n p, vc = .slice a n p) (hp : Pg.Sl .i64 w vp ps) (hs : Srt ps) (hl : ps.length ≤ 1073741824) :
  Calls Tryz.prog 75 #[.agg #[vm, vc, .int .u64 (b : Int), vp], .int .u32 (n : Int)] w fun e w' => e = .returned (.int .i64 (protN ps n)) ∧ Below w.heap.size w w' := by
 obtain ⟨W, hW, hbb, hsz, c0, c1, c2, c3, _⟩ := box4 w vm vc (.int .u64 (b : Int)) vp 29
 obtain ⟨_, _, _, rfl⟩ := hm
 obtain ⟨_, _, _, rfl⟩ := hc
 have hpW := hp.keep hbb
 have K := gsearch37 vp ps n W hpW hs hl
 obtain ⟨ao, cap, rfl, h1, h2, _, h4⟩ := hpW
 cases hin : isIn ps n with
 | false =>
  rw [hin] at K
  have HR : Hid (protN ps n = -1) := protN_no hin
  generalize (lo ps n).length = f at K
  clear h4 hin hp hs
  go_enter Tryz.func75, Tryz.ntmps75
  go_wp2_with fail
  refine K.mono ?_
  rintro e w1 ⟨rfl, hb1⟩
  go_wp2
  go_ret
  exact ⟨by rw [HR.out]; rfl, below_tr hbb hb1⟩
 | true =>
  rw [hin] at K
  have hlt : (lo ps n).length < ps.length := by
   apply Classical.byContradiction
   intro c
   rw [isIn_end hs n c] at hin
   cases hin
  have he0 := isIn_at hs n hlt
  rw [hin] at he0
  have he : ps[(lo ps n).length].1 = n := by simpa using he0.symm
  clear he0
  have HR : Hid (protN ps n = ps[(lo ps n).length].2) := by
   show _ = _
   have := protN_in hs (List.getElem_mem hlt)
   rw [he] at this
   exact this
  obtain ⟨bb, o, rfl, d0, d1⟩ := h4 _ hlt
  generalize ps[(lo ps n).length].2 = r at HR d1
  generalize (lo ps n).length = f at K d1 hlt
  have x1 : (f : Int) < (ps.length : Int) := by omega
  clear h4 hin hp hs he d0
  go_enter Tryz.func75, Tryz.ntmps75
  go_wp2_with fail
  refine K.mono ?_
  rintro e w1 ⟨rfl, hb1⟩
  have d1 := keep_cell hb1 d1
  have c3 := keep_cell hb1 c3
  go_wp2
  go_ret
  exact ⟨by rw [HR.out]; rfl, below_tr hbb hb1⟩
def usedN (ps : List (Nat × Int)) (k : Nat) : Bool := ps.any (fun x => x.1 / 4 == k)
theorem used_mid {ps : List (Nat × Int)} (k : Nat) : usedN ps k = decide ((mid ps (k * 4) (k * 4 + 4 - 1)).length ≠ 0) := by
 rw [Bool.eq_iff_iff]
 simp only [usedN, List.any_eq_true, beq_iff_eq, decide_eq_true_eq]
 constructor
 ·rintro ⟨x, hx, e⟩ c
  have := mid_mem.2 ⟨hx, (show k * 4 ≤ x.1 by omega), (show x.1 ≤ k * 4 + 4 - 1 by omega)⟩
  rw [List.eq_nil_of_length_eq_zero c] at this
  simp at this
 ·intro c
  obtain ⟨x, hx⟩ := List.exists_mem_of_ne_nil (mid ps (k * 4) (k * 4 + 4 - 1)) (fun e => c (by rw [e]; rfl))
  have := mid_mem.1 hx
  exact ⟨x, this.1, by omega⟩
set_option maxHeartbeats 2000000 in
theorem gisUsed79 (wb k : Nat) (vp : Value) (ps : List (Nat × Int)) (w : World) (c3 : w.cell? ⟨wb, 3, none⟩ = some vp) (hp : Pg.Sl .i64 w vp ps) (hs : Srt ps) (hl : ps.length ≤ 1073741824) (hk : k < 1073741823) :
  Calls Tryz.prog 99 #[.pointer (some ⟨wb, 0, none⟩), .int .u32 (k : Int)] w fun e w' => e = .returned (.bool (usedN ps k)) ∧ Below w.heap.size w w' := by
 have K := gspan67 vp ps (k * 4) 4 (k * 4 + 4 - 1) w hp hs hl (by omega) (by omega) rfl
 obtain ⟨av, nv, pv, rfl⟩ : ∃ a n p, vp = .slice a n p := by obtain ⟨a, p, h, _⟩ := hp; exact ⟨_, _, _, h⟩
 have x1 : IntKind.u32.wrap ((k : Int) * 4) = ((k * 4 : Nat) : Int) := by rw [IntKind.wrap_u32]; omega
 have HU := used_mid (ps := ps) k
 have HR : Hid (usedN ps k = (((lo ps (k * 4)).length : Int) != (((lo ps (k * 4)).length + (mid ps (k * 4) (k * 4 + 4 - 1)).length : Nat) : Int))) := by
  show _ = _
  rw [HU, Bool.eq_iff_iff]
  simp only [decide_eq_true_eq, bne_iff_ne, ne_eq]
  omega
 obtain ⟨q, hq⟩ : ∃ q, q = k * 4 := ⟨_, rfl⟩
 rw [← hq] at K x1 HR
 generalize (lo ps q).length = f at K HR
 generalize f + (mid ps q (q + 4 - 1)).length = t at K HR
 obtain ⟨bb, hbb⟩ : ∃ bb, bb = usedN ps k := ⟨_, rfl⟩
 rw [← hbb]
 have hx : ((f : Int) != (t : Int)) = bb := by rw [hbb, HR.out]
 clear hp hs HU HR hbb hq
 go_enter Tryz.func99, Tryz.ntmps99
 go_wp2_with fail
 refine K.mono ?_
 rintro e w1 ⟨rfl, hb1⟩
 go_wp2
 go_ret
 exact ⟨rfl, hb1⟩
end Go.Proofs.YtkpmkgkfpikpfaaGreat
