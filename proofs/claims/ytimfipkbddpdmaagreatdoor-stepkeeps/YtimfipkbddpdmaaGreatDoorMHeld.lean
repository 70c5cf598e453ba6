import Derived.Test.YtimfipkbddpdmaaGreatDoorMSl
import Derived.Lib.AppendZerosOnto
import Derived.OwnWalk
import Derived.Lib.Walk
import Derived.Laws.AppendOwnNone
import Derived.LoopTactic
import Derived.Deep.RegionHeld3
import Derived.Laws.ResultCell
import Derived.Laws.OwnMore
import Derived.BigQuiet
import Derived.Laws.StructEq
set_option linter.unusedVariables false
set_option linter.unusedSimpArgs false
set_option maxRecDepth 100000
open Go Go.RowKit
namespace Go.Proofs.YtimfipkbddpdmaaGreatDoor.Gm
theorem info54 : (Tryz.prog.info? 86).map (fun i => (i.zero, i.size, i.bytes)) = some (some (.agg #[.int .u64 0, .int .i64 0]), 2, 16) := by kernel_rfl
theorem info58 : (Tryz.prog.info? 48).map (fun i => (i.zero, i.size, i.bytes)) = some (some (.agg #[.int .u64 0, .int .u64 0]), 2, 16) := by kernel_rfl
set_option maxHeartbeats 1000000 in
set_option maxRecDepth 100000 in
theorem grow58 (n : Nat) (w : World) (hn : n <= 1073741824) :
  Calls Tryz.prog 90 #[.slice none 0 0, .int .i64 n] w fun e w' => ∃ v, e = .returned v /\ w'.ownsRow w.heap.size 86 2 v 0 [] /\ Below w.heap.size w w' := by
 by_cases h0 : n = 0
 ·subst h0
  go_enter Tryz.func90, Tryz.ntmps90
  go_wp2
  go_ret
  exact ⟨_, rfl, World.ownsRow_nil _ _ _ _, Below.refl _ _⟩
 obtain ⟨i0, hi, hz0, hz1, hz2⟩ := info_parts info54
 have hold : (Builtin.firstCells i0.size 0 (.slice none 0 0)).run Tryz.prog w.drew = .ok ([] : List Value).toArray w.drew := run_firstCells_none w.drew i0.size 0 0 0
 have hrz : ∀ ty, (Builtin.append_ #[26, 3] ty #[.slice none 0 0, .int .i64 n]).run Tryz.prog w =
   .ok (.slice (some ⟨w.heap.size, 0, none⟩) n (grownCap w n 0 86)) (w.drew.alloc (.cells (Builtin.zeroCells #[.int .u64 0, .int .i64 0] n ++ Builtin.zeroCells #[.int .u64 0, .int .i64 0] (grownCap w n 0 86 - n)) 86)) := fun ty => by
  have h := Lib.run_append_grow_zeros w 26 3 ty 86 i0 _ .i64 .i64 Tryz.underlying26 Tryz.underlying3 hi hz0 none 0 0 [] hold n (by omega) (by omega) (by omega) (by omega) (by rw [hz2]; omega)
   (by rw [Nat.zero_add, hz2]; exact growslice_fits (by omega) (by omega))
  simpa [Value.cells] using h
 have hGn : n <= grownCap w n 0 86 := grownCap_ge w _ _ _
 have hG63 := grownCap_le_maxLen w n 0 86 (by unfold maxLen; omega)
 obtain ⟨G, hG⟩ : ∃ G, G = grownCap w n 0 86 := ⟨_, rfl⟩
 rw [<- hG] at hrz hGn hG63
 clear hold hG hi hz0 hz1 hz2
 have HG : Hid (∀ cs : Array Value, cs.size = G * 2 -> (w.drew.alloc (.cells cs 86)).ownsRow w.heap.size 86 2 (.slice (some ⟨w.heap.size, 0, none⟩) 0 G) 0 []) := fun cs hcs => by
  refine ⟨by simp, Or.inr ⟨w.heap.size, G, cs, rfl, Nat.le_refl _, ?_, by omega, hG63, hcs, by simp⟩⟩
  show (w.heap.push _)[w.heap.size]? = _
  simp
 unfold maxLen at hG63
 go_enter Tryz.func90, Tryz.ntmps90
 go_wp2_with (at_builtin; refine Lib.wpList_append_run _ rfl _ _ _ _ rfl _ _ rfl rfl _ _ (hrz _) ?_)
 go_ret
 refine ⟨_, rfl, HG.out _ ?_, ((Below.refl _ _).drew).alloc (Nat.le_refl _) _⟩
 simp [size_zeroCells]
 omega
set_option maxHeartbeats 1000000 in
set_option maxRecDepth 100000 in
theorem grow59 (n : Nat) (w : World) (hn : n <= 1073741824) :
  Calls Tryz.prog 91 #[.slice none 0 0, .int .i64 n] w fun e w' => ∃ v, e = .returned v /\ w'.ownsRow w.heap.size 48 2 v 0 [] /\ Below w.heap.size w w' := by
 by_cases h0 : n = 0
 ·subst h0
  go_enter Tryz.func91, Tryz.ntmps91
  go_wp2
  go_ret
  exact ⟨_, rfl, World.ownsRow_nil _ _ _ _, Below.refl _ _⟩
 obtain ⟨i0, hi, hz0, hz1, hz2⟩ := info_parts info58
 have hold : (Builtin.firstCells i0.size 0 (.slice none 0 0)).run Tryz.prog w.drew = .ok ([] : List Value).toArray w.drew := run_firstCells_none w.drew i0.size 0 0 0
 have hrz : ∀ ty, (Builtin.append_ #[27, 3] ty #[.slice none 0 0, .int .i64 n]).run Tryz.prog w =
   .ok (.slice (some ⟨w.heap.size, 0, none⟩) n (grownCap w n 0 48)) (w.drew.alloc (.cells (Builtin.zeroCells #[.int .u64 0, .int .u64 0] n ++ Builtin.zeroCells #[.int .u64 0, .int .u64 0] (grownCap w n 0 48 - n)) 48)) := fun ty => by
  have h := Lib.run_append_grow_zeros w 27 3 ty 48 i0 _ .i64 .i64 Tryz.underlying27 Tryz.underlying3 hi hz0 none 0 0 [] hold n (by omega) (by omega) (by omega) (by omega) (by rw [hz2]; omega)
   (by rw [Nat.zero_add, hz2]; exact growslice_fits (by omega) (by omega))
  simpa [Value.cells] using h
 have hGn : n <= grownCap w n 0 48 := grownCap_ge w _ _ _
 have hG63 := grownCap_le_maxLen w n 0 48 (by unfold maxLen; omega)
 obtain ⟨G, hG⟩ : ∃ G, G = grownCap w n 0 48 := ⟨_, rfl⟩
 rw [<- hG] at hrz hGn hG63
 clear hold hG hi hz0 hz1 hz2
 have HG : Hid (∀ cs : Array Value, cs.size = G * 2 -> (w.drew.alloc (.cells cs 48)).ownsRow w.heap.size 48 2 (.slice (some ⟨w.heap.size, 0, none⟩) 0 G) 0 []) := fun cs hcs => by
  refine ⟨by simp, Or.inr ⟨w.heap.size, G, cs, rfl, Nat.le_refl _, ?_, by omega, hG63, hcs, by simp⟩⟩
  show (w.heap.push _)[w.heap.size]? = _
  simp
 unfold maxLen at hG63
 go_enter Tryz.func91, Tryz.ntmps91
 go_wp2_with (at_builtin; refine Lib.wpList_append_run _ rfl _ _ _ _ rfl _ _ rfl rfl _ _ (hrz _) ?_)
 go_ret
 refine ⟨_, rfl, HG.out _ ?_, ((Below.refl _ _).drew).alloc (Nat.le_refl _) _⟩
 simp [size_zeroCells]
 omega
def rowOf (k : IntKind) : List (Nat × Int) -> List Value
 | [] => []
 | x :: xs => .int .u64 x.1 :: .int k x.2 :: rowOf k xs
theorem rowOf_append (k : IntKind) : ∀ (xs ys : List (Nat × Int)), rowOf k (xs ++ ys) = rowOf k xs ++ rowOf k ys
 | [], _ => rfl
 | x :: xs, ys => by simp [rowOf, rowOf_append k xs ys]
theorem rowOf_length (k : IntKind) : ∀ (xs : List (Nat × Int)), (rowOf k xs).length = xs.length * 2
 | [] => rfl
 | x :: xs => by simp [rowOf, rowOf_length k xs]; omega
theorem rowOf_one (k : IntKind) : ∀ (xs : List (Nat × Int)), ∀ u ∈ rowOf k xs, u.oneCell' = true
 | [], u, h => by simp [rowOf] at h
 | x :: xs, u, h => by
  simp only [rowOf, List.mem_cons] at h
  rcases h with rfl | rfl | h
  ·rfl
  ·rfl
  ·exact rowOf_one k xs u h
theorem rowOf_even (k : IntKind) : ∀ (xs : List (Nat × Int)) (i : Nat) (h : i < xs.length), (rowOf k xs)[i * 2]? = some (.int .u64 (xs[i].1 : Int)) /\ (rowOf k xs)[i * 2 + 1]? = some (.int k xs[i].2)
 | [], i, h => by simp at h
 | x :: xs, 0, _ => by simp [rowOf]
 | x :: xs, i + 1, h => by
  have := rowOf_even k xs i (by simpa using h)
  rw [show (i + 1) * 2 = i * 2 + 1 + 1 by omega]
  simpa [rowOf] using this
theorem add_pl (b o n : Nat) : (⟨b, o, none⟩ : Addr).add n = ⟨b, o + n, none⟩ := by
 simp only [Addr.add]
 split
 ·rename_i h; subst h; rfl
 ·rfl
theorem rowOf_cells {k : IntKind} {w : World} {ad : Addr} {n cap : Nat} {xs : List (Nat × Int)} (h : Sl k w (.slice (some ad) n cap) xs) :
  ∀ j u, (rowOf k xs)[j]? = some u -> w.cell? (ad.add j) = some u := by
 obtain ⟨ao, cap, hv, h1, h2, h3, h4⟩ := h
 simp only [Value.slice.injEq] at hv
 obtain ⟨rfl, rfl, rfl⟩ := hv
 intro j u hj
 have hjl : j < xs.length * 2 := by
  rw [<- rowOf_length k xs]
  exact (List.getElem?_eq_some_iff.1 hj).1
 obtain ⟨b, o, e, c0, c1⟩ := h4 (j / 2) (by omega)
 obtain ⟨r0, r1⟩ := rowOf_even k xs (j / 2) (by omega)
 simp only [Option.some.injEq] at e
 subst e
 rcases Nat.mod_two_eq_zero_or_one j with hm | hm
 ·rw [show j / 2 * 2 = j by omega] at r0 c0
  rw [r0] at hj
  rw [<- hj]
  rw [add_pl]; exact c0
 ·rw [show j / 2 * 2 + 1 = j by omega] at r1
  rw [show o + j / 2 * 2 + 1 = o + j by omega] at c1
  rw [r1] at hj
  rw [<- hj]
  rw [add_pl]; exact c1
theorem own_sl {k : IntKind} {w : World} {base e : Nat} {v : Value} {xs : List (Nat × Int)} (h : w.ownsRow base e 2 v xs.length (rowOf k xs)) : Sl k w v xs := by
 obtain ⟨hl, ⟨rfl, h0⟩ | ⟨g, cap, cur, rfl, hb, hh, hn, hc, hcs, hx⟩⟩ := h
 ·refine ⟨none, 0, by rw [h0], by omega, by omega, fun _ => rfl, fun i hi => by omega⟩
 ·refine ⟨some ⟨g, 0, none⟩, cap, rfl, hn, (by unfold maxLen at hc; omega), (fun h => by cases h), fun i hi => ⟨g, 0, rfl, ?_, ?_⟩⟩
  ·obtain ⟨r0, r1⟩ := rowOf_even k xs i hi
   rw [<- hx, List.getElem?_take] at r0
   split at r0
   ·simp only [World.cell?, hh]; simpa using r0
   ·simp at r0
  ·obtain ⟨r0, r1⟩ := rowOf_even k xs i hi
   rw [<- hx, List.getElem?_take] at r1
   split at r1
   ·simp only [World.cell?, hh]; simpa using r1
   ·simp at r1
theorem own_ge {w : World} {base e size : Nat} {v : Value} {n : Nat} {xs : List Value} (h : w.ownsRow base e size v n xs) (g : Nat) (hg : v.ownBlock = some g) : base <= g := by
 obtain ⟨_, h | h⟩ := h
 ·rw [h.1] at hg; simp [Value.ownBlock] at hg
 ·obtain ⟨g', _, _, hv, hge, _⟩ := h
  rw [hv] at hg; simp [Value.ownBlock] at hg; omega
theorem own_base {w : World} {base base' e size : Nat} {v : Value} {n : Nat} {xs : List Value} (h : w.ownsRow base e size v n xs) (hb : base' <= base) : w.ownsRow base' e size v n xs := by
 obtain ⟨h0, h | ⟨g, cap, cur, h1, h2, h3⟩⟩ := h
 ·exact ⟨h0, Or.inl h⟩
 ·exact ⟨h0, Or.inr ⟨g, cap, cur, h1, by omega, h3⟩⟩
theorem own_keep {w w' : World} {base e size : Nat} {v : Value} {n : Nat} {xs : List Value} (h : w.ownsRow base e size v n xs) (hb : Below w.heap.size w w') : w'.ownsRow base e size v n xs := by
 obtain ⟨h0, h | ⟨g, cap, cur, h1, h2, h3, h4⟩⟩ := h
 ·exact ⟨h0, Or.inl h⟩
 ·refine ⟨h0, Or.inr ⟨g, cap, cur, h1, h2, ?_, h4⟩⟩
  rw [hb.block g (Array.getElem?_eq_some_iff.1 h3).1]; exact h3
def joined (f : Nat -> List (Nat × Int)) : Nat -> List (Nat × Int)
 | 0 => []
 | n + 1 => joined f n ++ f n
theorem joined_le (f : Nat -> List (Nat × Int)) : ∀ (n m : Nat), n <= m -> (joined f n).length <= (joined f m).length
 | n, 0, h => by
  obtain rfl : n = 0 := by omega
  exact Nat.le_refl _
 | n, m + 1, h => by
  by_cases e : n = m + 1
  ·subst e; exact Nat.le_refl _
  ·have := joined_le f n m (by omega)
   simp [joined]; omega
set_option maxHeartbeats 1000000 in
theorem concat39 (b k : Nat) (vs : Nat -> Value) (xss : Nat -> List (Nat × Int)) (w : World) (hk : k <= 8) (hn : (joined xss k).length <= 1073741824)
  (hv : ∀ i, i < k -> w.cell? ⟨b, i, none⟩ = some (vs i) /\ Sl .i64 w (vs i) (xss i)) :
  Calls Tryz.prog 62 #[.slice (some ⟨b, 0, none⟩) k k] w fun e w' => ∃ v, e = .returned v /\ w'.ownsRow w.heap.size 86 2 v (joined xss k).length (rowOf .i64 (joined xss k)) /\ Below w.heap.size w w' := by
 have HV : Hid _ := hv
 have HJ : Hid (∀ m, m <= k -> (joined xss m).length <= 1073741824) := fun m hm => Nat.le_trans (joined_le xss m k hm) hn
 clear hv
 obtain ⟨i0, hi, hz0, hz1, hz2⟩ := info_parts info54
 have hin : Hid (Tryz.prog.info? 86 = some i0 /\ i0.zero = some (.agg #[.int .u64 0, .int .i64 0]) /\ i0.size = 2 /\ i0.bytes = 16) := ⟨hi, hz0, hz1, hz2⟩
 clear hi hz0 hz1 hz2
 go_enter Tryz.func62, Tryz.ntmps62
 go_wp2
 go_loopw [3, 11] (fun s i wr => ∃ m : Nat, m <= k /\ i = .int .i64 m /\ s = .int .i64 ((joined xss m).length : Int) /\ w = wr) (fun _ i _ => k - (intOf i).toNat)
 case atStart => exact ⟨0, Nat.zero_le _, rfl, rfl, rfl⟩
 case round =>
  obtain ⟨m, hm, rfl, rfl, rfl⟩ := hrel
  by_cases hmk : m < k
  ·obtain ⟨cv, ao, cap, hvm, h1, h2, h3, h4⟩ := HV.out m hmk
   rw [hvm] at cv
   have l0 := HJ.out m hm
   have l1 := HJ.out (m + 1) hmk
   simp only [joined, List.length_append] at l1
   clear hvm h1 h2 h3 h4
   go_wp2
   go_roundw
   case rel => exact ⟨m + 1, by omega, by go_num, by simp [joined], by first | rfl | trivial⟩
   case measure => simp [intOf]; omega
  ·obtain rfl : m = k := by omega
   go_wp2_with fail
   refine (grow58 _ _ (HJ.out m (Nat.le_refl _))).mono ?_
   rintro e w1 ⟨v, rfl, hown, hb⟩
   go_wp2
   go_loopw [6, 27] (fun s i wr => ∃ j : Nat, j <= m /\ i = .int .i64 j /\ wr.ownsRow w.heap.size 86 2 s (joined xss j).length (rowOf .i64 (joined xss j)) /\ Below w.heap.size w wr) (fun _ i _ => m - (intOf i).toNat)
   case atStart => exact ⟨0, Nat.zero_le _, rfl, hown, hb⟩
   case round =>
    obtain ⟨j, hj, rfl, hown, hb⟩ := hrel
    by_cases hjk : j < m
    ·obtain ⟨cv, hsl⟩ := HV.out j hjk
     have cv := keep_cell hb cv
     have hsl := hsl.keep hb
     obtain ⟨hi, hz0, hz1, hz2⟩ := hin.out
     have l1 := HJ.out (j + 1) hjk
     simp only [joined, List.length_append] at l1
     have hsz := hb.size
     obtain ⟨ao, cap, hvj, h1, h2, h3, h4⟩ := id hsl
     rw [hvj] at cv hsl
     clear hvj h4
     cases ao with
     | none =>
      obtain rfl := h3 rfl
      have hz : xss j = [] := List.eq_nil_of_length_eq_zero (by omega)
      rw [hz] at cv
      clear hsl h1 h2 h3
      go_wp2_with (at_builtin; refine wpList_append_own_none rfl (.tmp 31) (.tmp 32) 26 rfl w.heap.size 86 i0 2 Tryz.underlying26 hi _ _ _ rfl hown rfl ?_)
      go_roundw
      case rel => exact ⟨j + 1, by omega, by go_num, by simp only [joined, hz, List.append_nil]; exact hown, hb⟩
      case measure => simp [intOf]; omega
     | some ad =>
      have hcs := rowOf_cells hsl
      have HC : Hid _ := hcs
      clear hcs hsl h3 h1 h2
      go_wp2_with (at_builtin; refine wpList_append_own _ rfl (.tmp 31) (.tmp 32) 26 rfl w.heap.size 86 i0 _ 2 16 Tryz.underlying26 hi hz0 hz1 hz2 rfl (by decide) _ _ _ rfl hown ad (xss j).length cap (rowOf .i64 (xss j)) rfl (rowOf_length _ _) HC.out (rowOf_one _ _) (by unfold maxLen; omega) (by omega) hsz ?_; intro v' w2 hown' hgrow _)
      have R : w2.ownsRow w.heap.size 86 2 v' (joined xss (j + 1)).length (rowOf .i64 (joined xss (j + 1))) := by
       simp only [joined, rowOf_append, List.length_append]; exact hown'
      have R2 : Below w.heap.size w w2 := hb.grown hgrow hsz (own_ge hown)
      clear hown hown' hgrow HC hb
      go_wp2
      go_roundw
      case rel => exact ⟨j + 1, by omega, by go_num, R, R2⟩
      case measure => simp [intOf]; omega
    ·obtain rfl : j = m := by omega
     go_wp2
     go_ret
     exact ⟨_, rfl, hown, hb⟩
set_option maxHeartbeats 1000000 in
theorem concat40 (b k : Nat) (vs : Nat -> Value) (xss : Nat -> List (Nat × Int)) (w : World) (hk : k <= 8) (hn : (joined xss k).length <= 1073741824)
  (hv : ∀ i, i < k -> w.cell? ⟨b, i, none⟩ = some (vs i) /\ Sl .u64 w (vs i) (xss i)) :
  Calls Tryz.prog 63 #[.slice (some ⟨b, 0, none⟩) k k] w fun e w' => ∃ v, e = .returned v /\ w'.ownsRow w.heap.size 48 2 v (joined xss k).length (rowOf .u64 (joined xss k)) /\ Below w.heap.size w w' := by
 have HV : Hid _ := hv
 have HJ : Hid (∀ m, m <= k -> (joined xss m).length <= 1073741824) := fun m hm => Nat.le_trans (joined_le xss m k hm) hn
 clear hv
 obtain ⟨i0, hi, hz0, hz1, hz2⟩ := info_parts info58
 have hin : Hid (Tryz.prog.info? 48 = some i0 /\ i0.zero = some (.agg #[.int .u64 0, .int .u64 0]) /\ i0.size = 2 /\ i0.bytes = 16) := ⟨hi, hz0, hz1, hz2⟩
 clear hi hz0 hz1 hz2
 go_enter Tryz.func63, Tryz.ntmps63
 go_wp2
 go_loopw [3, 11] (fun s i wr => ∃ m : Nat, m <= k /\ i = .int .i64 m /\ s = .int .i64 ((joined xss m).length : Int) /\ w = wr) (fun _ i _ => k - (intOf i).toNat)
 case atStart => exact ⟨0, Nat.zero_le _, rfl, rfl, rfl⟩
 case round =>
  obtain ⟨m, hm, rfl, rfl, rfl⟩ := hrel
  by_cases hmk : m < k
  ·obtain ⟨cv, ao, cap, hvm, h1, h2, h3, h4⟩ := HV.out m hmk
   rw [hvm] at cv
   have l0 := HJ.out m hm
   have l1 := HJ.out (m + 1) hmk
   simp only [joined, List.length_append] at l1
   clear hvm h1 h2 h3 h4
   go_wp2
   go_roundw
   case rel => exact ⟨m + 1, by omega, by go_num, by simp [joined], by first | rfl | trivial⟩
   case measure => simp [intOf]; omega
  ·obtain rfl : m = k := by omega
   go_wp2_with fail
   refine (grow59 _ _ (HJ.out m (Nat.le_refl _))).mono ?_
   rintro e w1 ⟨v, rfl, hown, hb⟩
   go_wp2
   go_loopw [6, 27] (fun s i wr => ∃ j : Nat, j <= m /\ i = .int .i64 j /\ wr.ownsRow w.heap.size 48 2 s (joined xss j).length (rowOf .u64 (joined xss j)) /\ Below w.heap.size w wr) (fun _ i _ => m - (intOf i).toNat)
   case atStart => exact ⟨0, Nat.zero_le _, rfl, hown, hb⟩
   case round =>
    obtain ⟨j, hj, rfl, hown, hb⟩ := hrel
    by_cases hjk : j < m
    ·obtain ⟨cv, hsl⟩ := HV.out j hjk
     have cv := keep_cell hb cv
     have hsl := hsl.keep hb
     obtain ⟨hi, hz0, hz1, hz2⟩ := hin.out
     have l1 := HJ.out (j + 1) hjk
     simp only [joined, List.length_append] at l1
     have hsz := hb.size
     obtain ⟨ao, cap, hvj, h1, h2, h3, h4⟩ := id hsl
     rw [hvj] at cv hsl
     clear hvj h4
     cases ao with
     | none =>
      obtain rfl := h3 rfl
      have hz : xss j = [] := List.eq_nil_of_length_eq_zero (by omega)
      rw [hz] at cv
      clear hsl h1 h2 h3
      go_wp2_with (at_builtin; refine wpList_append_own_none rfl (.tmp 31) (.tmp 32) 27 rfl w.heap.size 48 i0 2 Tryz.underlying27 hi _ _ _ rfl hown rfl ?_)
      go_roundw
      case rel => exact ⟨j + 1, by omega, by go_num, by simp only [joined, hz, List.append_nil]; exact hown, hb⟩
      case measure => simp [intOf]; omega
     | some ad =>
      have hcs := rowOf_cells hsl
      have HC : Hid _ := hcs
      clear hcs hsl h3 h1 h2
      go_wp2_with (at_builtin; refine wpList_append_own _ rfl (.tmp 31) (.tmp 32) 27 rfl w.heap.size 48 i0 _ 2 16 Tryz.underlying27 hi hz0 hz1 hz2 rfl (by decide) _ _ _ rfl hown ad (xss j).length cap (rowOf .u64 (xss j)) rfl (rowOf_length _ _) HC.out (rowOf_one _ _) (by unfold maxLen; omega) (by omega) hsz ?_; intro v' w2 hown' hgrow _)
      have R : w2.ownsRow w.heap.size 48 2 v' (joined xss (j + 1)).length (rowOf .u64 (joined xss (j + 1))) := by
       simp only [joined, rowOf_append, List.length_append]; exact hown'
      have R2 : Below w.heap.size w w2 := hb.grown hgrow hsz (own_ge hown)
      clear hown hown' hgrow HC hb
      go_wp2
      go_roundw
      case rel => exact ⟨j + 1, by omega, by go_num, R, R2⟩
      case measure => simp [intOf]; omega
    ·obtain rfl : j = m := by omega
     go_wp2
     go_ret
     exact ⟨_, rfl, hown, hb⟩
theorem cat39_1 (b : Nat) (v0 : Value) (xs : List (Nat × Int)) (w : World) (c0 : w.cell? ⟨b, 0, none⟩ = some v0) (h0 : Sl .i64 w v0 xs) (hl : xs.length <= 1073741824) :
  Calls Tryz.prog 62 #[.slice (some ⟨b, 0, none⟩) 1 1] w fun e w' => ∃ v, e = .returned v /\ w'.ownsRow w.heap.size 86 2 v xs.length (rowOf .i64 xs) /\ Below w.heap.size w w' := by
 have h := concat39 b 1 (fun _ => v0) (fun _ => xs) w (by omega) (by simpa [joined] using hl) (fun i hi => by
  obtain rfl : i = 0 := by omega
  exact ⟨c0, h0⟩)
 simpa [joined] using h
theorem cat40_1 (b : Nat) (v0 : Value) (xs : List (Nat × Int)) (w : World) (c0 : w.cell? ⟨b, 0, none⟩ = some v0) (h0 : Sl .u64 w v0 xs) (hl : xs.length <= 1073741824) :
  Calls Tryz.prog 63 #[.slice (some ⟨b, 0, none⟩) 1 1] w fun e w' => ∃ v, e = .returned v /\ w'.ownsRow w.heap.size 48 2 v xs.length (rowOf .u64 xs) /\ Below w.heap.size w w' := by
 have h := concat40 b 1 (fun _ => v0) (fun _ => xs) w (by omega) (by simpa [joined] using hl) (fun i hi => by
  obtain rfl : i = 0 := by omega
  exact ⟨c0, h0⟩)
 simpa [joined] using h
theorem cat40_3 (b : Nat) (v0 v1 v2 : Value) (xs ys zs : List (Nat × Int)) (w : World) (c0 : w.cell? ⟨b, 0, none⟩ = some v0) (c1 : w.cell? ⟨b, 1, none⟩ = some v1) (c2 : w.cell? ⟨b, 2, none⟩ = some v2) (h0 : Sl .u64 w v0 xs) (h1 : Sl .u64 w v1 ys) (h2 : Sl .u64 w v2 zs) (hl : (xs ++ ys ++ zs).length <= 1073741824) :
  Calls Tryz.prog 63 #[.slice (some ⟨b, 0, none⟩) 3 3] w fun e w' => ∃ v, e = .returned v /\ w'.ownsRow w.heap.size 48 2 v (xs ++ ys ++ zs).length (rowOf .u64 (xs ++ ys ++ zs)) /\ Below w.heap.size w w' := by
 have h := concat40 b 3 (fun i => match i with | 0 => v0 | 1 => v1 | _ => v2) (fun i => match i with | 0 => xs | 1 => ys | _ => zs) w (by omega) (by simpa [joined] using hl) (fun i hi => by
  match i, hi with
  | 0, _ => exact ⟨c0, h0⟩
  | 1, _ => exact ⟨c1, h1⟩
  | 2, _ => exact ⟨c2, h2⟩)
 simpa [joined] using h
theorem results_cell1 {fn : Func} {p : Tmp} {ty : TypeId} (h : fn.results = #[.cell p ty]) (tmps : Array Value) (P : Program) (w : World) :
  (results fn tmps).run P w = ((asAddr (tmps.getD p undef)).run P w).andThen fun a w₁ => (loadVar ty a).run P w₁ := by
 simp only [results, h]
 simp [Sem.run_bind, Result.andThen]
theorem below_alloc {w w1 : World} (h : Below w.heap.size w w1) (o : Obj) : Below w.heap.size w (w1.alloc o) := h.alloc h.size o
theorem below_set {B : Nat} {w w1 : World} (h : Below B w w1) {p : Addr} (hp : B <= p.block) (u : Value) : Below B w (w1.setCell p u) := h.setCell hp u
theorem cell_newA (W : World) (cs : Array Value) (t n i : Nat) (x : Value) (h : n = W.heap.size) (hx : cs[i]? = some x) : (W.alloc (.cells cs t)).cell? ⟨n, i, none⟩ = some x := by
 subst h; rw [World.cell?_alloc_at _ _ _ _ (by simp)]; exact hx
theorem cell_old {w : World} {a : Addr} {v : Value} (h : w.cell? a = some v) (o : Obj) : (w.alloc o).cell? a = some v := keep_cell ((Below.refl _ _).alloc (Nat.le_refl _) _) h
theorem cell_drew {w : World} {a : Addr} {v : Value} (h : w.cell? a = some v) : w.drew.cell? a = some v := by rw [World.cell?_drew]; exact h
theorem cell_far {w : World} {a p : Addr} {v : Value} (h : w.cell? a = some v) (hp : p.block ≠ a.block) (u : Value) : (w.setCell p u).cell? a = some v := (World.cell?_setCell_far w p a u hp).trans h
theorem own_shape {w : World} {base e size : Nat} {v : Value} {n : Nat} {xs : List Value} (h : w.ownsRow base e size v n xs) : ∃ a n p, v = .slice a n p := by
 obtain ⟨_, h | ⟨g, cap, cur, h1, _⟩⟩ := h
 ·exact ⟨_, _, _, h.1⟩
 ·exact ⟨_, _, _, h1⟩
def Free (w : World) (a : Addr) : Prop := (∃ u, w.cell? a = some u) /\ w.frozen? a = false
def cellAt (w : World) (a : Addr) : Value := (w.cell? a).getD undef
theorem Free.cell {w : World} {a : Addr} (h : Free w a) : w.cell? a = some (cellAt w a) := by
 obtain ⟨⟨u, hu⟩, _⟩ := h
 rw [cellAt, hu]; rfl
theorem Free.frozen {w : World} {a : Addr} (h : Free w a) : w.frozen? a = false := h.2
theorem Free.keep {w w' : World} (hb : Below w.heap.size w w') {a : Addr} (h : Free w a) : Free w' a := by
 obtain ⟨⟨u, hu⟩, hf⟩ := h
 exact ⟨⟨u, keep_cell hb hu⟩, keep_frozen hb (World.block_lt_of_cell? w a hu) hf⟩
theorem Free.alloc {w : World} {a : Addr} (h : Free w a) (o : Obj) : Free (w.alloc o) a := h.keep ((Below.refl _ _).alloc (Nat.le_refl _) _)
theorem Free.drew {w : World} {a : Addr} (h : Free w a) : Free w.drew a := h.keep (Below.refl _ _).drew
theorem Free.set {w : World} {a : Addr} (h : Free w a) (p : Addr) (v : Value) : Free (w.setCell p v) a := by
 obtain ⟨⟨u, hu⟩, hf⟩ := h
 refine ⟨?_, by rw [World.frozen?_setCell]; exact hf⟩
 by_cases e : p = a
 ·subst e
  exact ⟨v, World.cell?_setCell_same w p v hu⟩
 ·exact ⟨u, (World.cell?_setCell_other w p a v e).trans hu⟩
theorem box2b (w : World) (x0 x1 y0 y1 : Value) (t s : Nat) : ∃ W, (w.alloc (.cells #[x0, x1] t)).alloc (.cells #[y0, y1] s) = W /\ Below w.heap.size w W /\ W.heap.size = w.heap.size + 1 + 1 /\
  W.cell? ⟨w.heap.size, 0, none⟩ = some x0 /\ W.cell? ⟨w.heap.size, 1, none⟩ = some x1 /\ Free W ⟨w.heap.size, 0, none⟩ /\ Free W ⟨w.heap.size, 1, none⟩ /\ Free W ⟨w.heap.size + 1, 0, none⟩ /\ Free W ⟨w.heap.size + 1, 1, none⟩ := by
 obtain ⟨W, rfl, b1, s1, c0, c1, f0, f1⟩ := box2 w x0 x1 t
 obtain ⟨W', rfl, b2, s2, d0, d1, g0, g1⟩ := box2 (w.alloc (.cells #[x0, x1] t)) y0 y1 s
 rw [s1] at d0 d1 g0 g1 s2
 exact ⟨_, rfl, below_tr b1 b2, s2, keep_cell b2 c0, keep_cell b2 c1, ⟨⟨_, keep_cell b2 c0⟩, keep_frozen b2 (by simp [s1]) f0⟩, ⟨⟨_, keep_cell b2 c1⟩, keep_frozen b2 (by simp [s1]) f1⟩, ⟨⟨_, d0⟩, g0⟩, ⟨⟨_, d1⟩, g1⟩⟩
theorem own_alloc {w : World} {base e size : Nat} {v : Value} {n : Nat} {xs : List Value} (h : w.ownsRow base e size v n xs) (o : Obj) : (w.alloc o).ownsRow base e size v n xs := own_keep h ((Below.refl _ _).alloc (Nat.le_refl _) _)
theorem own_drew {w : World} {base e size : Nat} {v : Value} {n : Nat} {xs : List Value} (h : w.ownsRow base e size v n xs) : w.drew.ownsRow base e size v n xs := own_keep h (Below.refl _ _).drew
theorem freeA {w : World} {a : Addr} (h : Free w a := by repeat (first | with_reducible assumption | with_reducible refine Free.drew ?_ | with_reducible refine Free.alloc ?_ _ | with_reducible refine Free.set ?_ _ _ | with_reducible refine Free.keep (by with_reducible assumption) ?_)) : Free w a := h
theorem belA {n : Nat} {w w' : World} (h : Below n w w' := by repeat (first | with_reducible assumption | with_reducible exact Below.refl _ _ | with_reducible refine Below.drew ?_ | with_reducible refine below_alloc ?_ _ | (with_reducible refine below_set ?_ ?_ _; rotate_left; focus (first | (simp; done) | (simp; omega))) | with_reducible refine below_tr ?_ (by with_reducible assumption))) : Below n w w' := h
theorem cellA {w : World} {a : Addr} {v : Value} (h : w.cell? a = some v := by repeat (first | with_reducible assumption | with_reducible refine cell_drew ?_ | (with_reducible refine cell_newA _ _ _ _ _ _ ?_ rfl; (simp [*]; done)) | with_reducible refine cell_old ?_ _ | (with_reducible refine cell_far ?_ ?_ _; rotate_left; focus (first | (simp; done) | (simp; omega))) | with_reducible refine keep_cell (by with_reducible assumption) ?_)) : w.cell? a = some v := h
theorem ownA {w : World} {base e size : Nat} {v : Value} {n : Nat} {xs : List Value} (h : w.ownsRow base e size v n xs := by repeat (first | with_reducible assumption | (with_reducible refine ownsRow_setCell_below ?_ ?_ _; rotate_left; focus (first | (simp; done) | (simp; omega))) | with_reducible refine own_keep ?_ (by with_reducible assumption) | with_reducible refine own_alloc ?_ _ | with_reducible refine own_drew ?_)) : w.ownsRow base e size v n xs := h
theorem res2 (w : World) (n : Nat) (x y : Value) (h0 : Free w ⟨n, 0, none⟩) (h1 : Free w ⟨n, 1, none⟩) :
  ((w.setCell ⟨n, 0, none⟩ x).setCell ⟨n, 1, none⟩ y).cell? ⟨n, 0, none⟩ = some x /\ ((w.setCell ⟨n, 0, none⟩ x).setCell ⟨n, 1, none⟩ y).cell? ⟨n, 1, none⟩ = some y := by
 constructor
 ·rw [World.cell?_setCell_other _ _ _ _ (by simp)]
  exact World.cell?_setCell_same w _ x h0.cell
 ·exact World.cell?_setCell_same _ _ y (h1.set _ _).cell
structure Grew (W : World) where
 w : World
 bel : Below W.heap.size W w
theorem wp_region_quiet_grew {P : Program} {id : Nat} {Q : Exit -> Act -> World -> Prop} {a : Act} {W : World} {l : List Oper} (hm : P.follows .mixedOrders = true) (hB : Region.lexB .any l.toArray = true)
  (h : wpQuiet P l.toArray (fun w' => ∃ p : Grew W, w' = p.w) (fun a' => ∀ w', (∃ p : Grew W, w' = p.w) -> Q .normal a' w') l a) : (Code.region id l.toArray true).wp P Q a W :=
 wp_region_quiet (C := fun w' => ∃ p : Grew W, w' = p.w) hm hB ⟨⟨W.drew, (Below.refl _ _).drew⟩, rfl⟩ (by simpa using h)
theorem Calls.grew {P : Program} {f : FuncId} {args : Array Value} {W : World} {p : Grew W} {v : Value}
  (h : Calls P f args p.w fun e w' => e = .returned v /\ Below p.w.heap.size p.w w') : Calls P f args p.w fun e w'' => e = .returned v /\ ∃ q : Grew W, w'' = q.w :=
 h.mono fun _ w'' ⟨he, hb⟩ => ⟨he, ⟨w'', below_tr p.bel hb⟩, rfl⟩
theorem grew_cell {W : World} {a : Addr} {v : Value} (h : W.cell? a = some v) (p : Grew W) : p.w.cell? a = some v := keep_cell p.bel h
end Go.Proofs.YtimfipkbddpdmaaGreatDoor.Gm
