import Derived.Test.YtimfipkbddpdmaaGreatDoorMSl
import Derived.Test.YtimfipkbddpdmaaGreatDoorMCopied
import Derived.Test.YtimfipkbddpdmaaGreatDoorMHeld
import Derived.Test.YtimfipkbddpdmaaGreatDoorMSpan
import Derived.Test.YtimfipkbddpdmaaGreatDoorMPlain
import Derived.LoopTactic
import Derived.Laws.OwnMore
import Derived.OneCell
import Derived.Lib.OwnKind
import Derived.Lib.BufferOwn
import Derived.Lib.HexFns2
import Derived.Deep.RegionWith
set_option linter.unusedVariables false
set_option linter.unusedSimpArgs false
set_option maxRecDepth 100000
open Go Go.RowKit
namespace Go.Proofs.YtimfipkbddpdmaaGreatDoor.Gm.Pg
def Sl (k : IntKind) (w : World) (v : Value) (xs : List (Nat × Int)) : Prop :=
 ∃ ao cap, v = .slice ao xs.length cap /\ xs.length <= cap /\ cap <= 9223372036854775807 /\ (ao = none -> cap = 0) /\
  ∀ i (h : i < xs.length), ∃ b o, ao = some ⟨b, o, none⟩ /\ w.cell? ⟨b, o + i * 2, none⟩ = some (.int .u32 (xs[i].1 : Int)) /\ w.cell? ⟨b, o + i * 2 + 1, none⟩ = some (.int k xs[i].2)
theorem Sl.keep {k : IntKind} {w w' : World} {v : Value} {xs : List (Nat × Int)} (h : Sl k w v xs) (hb : Below w.heap.size w w') : Sl k w' v xs := by
 obtain ⟨ao, cap, rfl, h1, h2, h3, h4⟩ := h
 refine ⟨ao, cap, rfl, h1, h2, h3, fun i hi => ?_⟩
 obtain ⟨b, o, e, c0, c1⟩ := h4 i hi
 exact ⟨b, o, e, keep_cell hb c0, keep_cell hb c1⟩
theorem info54 : (Tryz.prog.info? 45).map (fun i => (i.zero, i.size, i.bytes)) = some (some (.agg #[.int .u32 0, .int .i64 0]), 2, 16) := by kernel_rfl
set_option maxHeartbeats 1000000 in
set_option maxRecDepth 100000 in
theorem grow58 (n : Nat) (w : World) (hn : n <= 1073741824) :
  Calls Tryz.prog 64 #[.slice none 0 0, .int .i64 n] w fun e w' => ∃ v, e = .returned v /\ w'.ownsRow w.heap.size 45 2 v 0 [] /\ Below w.heap.size w w' := by
 by_cases h0 : n = 0
 ·subst h0
  go_enter Tryz.func64, Tryz.ntmps64
  go_wp2
  go_ret
  exact ⟨_, rfl, World.ownsRow_nil _ _ _ _, Below.refl _ _⟩
 obtain ⟨i0, hi, hz0, hz1, hz2⟩ := info_parts info54
 have hold : (Builtin.firstCells i0.size 0 (.slice none 0 0)).run Tryz.prog w.drew = .ok ([] : List Value).toArray w.drew := run_firstCells_none w.drew i0.size 0 0 0
 have hrz : ∀ ty, (Builtin.append_ #[31, 3] ty #[.slice none 0 0, .int .i64 n]).run Tryz.prog w =
   .ok (.slice (some ⟨w.heap.size, 0, none⟩) n (grownCap w n 0 45)) (w.drew.alloc (.cells (Builtin.zeroCells #[.int .u32 0, .int .i64 0] n ++ Builtin.zeroCells #[.int .u32 0, .int .i64 0] (grownCap w n 0 45 - n)) 45)) := fun ty => by
  have h := Lib.run_append_grow_zeros w 31 3 ty 45 i0 _ .i64 .i64 Tryz.underlying31 Tryz.underlying3 hi hz0 none 0 0 [] hold n (by omega) (by omega) (by omega) (by omega) (by rw [hz2]; omega)
   (by rw [Nat.zero_add, hz2]; exact growslice_fits (by omega) (by omega))
  simpa [Value.cells] using h
 have hGn : n <= grownCap w n 0 45 := grownCap_ge w _ _ _
 have hG63 := grownCap_le_maxLen w n 0 45 (by unfold maxLen; omega)
 obtain ⟨G, hG⟩ : ∃ G, G = grownCap w n 0 45 := ⟨_, rfl⟩
 rw [<- hG] at hrz hGn hG63
 clear hold hG hi hz0 hz1 hz2
 have HG : Hid (∀ cs : Array Value, cs.size = G * 2 -> (w.drew.alloc (.cells cs 45)).ownsRow w.heap.size 45 2 (.slice (some ⟨w.heap.size, 0, none⟩) 0 G) 0 []) := fun cs hcs => by
  refine ⟨by simp, Or.inr ⟨w.heap.size, G, cs, rfl, Nat.le_refl _, ?_, by omega, hG63, hcs, by simp⟩⟩
  show (w.heap.push _)[w.heap.size]? = _
  simp
 unfold maxLen at hG63
 go_enter Tryz.func64, Tryz.ntmps64
 go_wp2_with (at_builtin; refine Lib.wpList_append_run _ rfl _ _ _ _ rfl _ _ rfl rfl _ _ (hrz _) ?_)
 go_ret
 refine ⟨_, rfl, HG.out _ ?_, ((Below.refl _ _).drew).alloc (Nat.le_refl _) _⟩
 simp [size_zeroCells]
 omega
def rowOf (k : IntKind) : List (Nat × Int) -> List Value
 | [] => []
 | x :: xs => .int .u32 x.1 :: .int k x.2 :: rowOf k xs
theorem rowOf_append (k : IntKind) : ∀ (xs ys : List (Nat × Int)), rowOf k (xs ++ ys) = rowOf k xs ++ rowOf k ys
 | [], _ => rfl
 | x :: xs, ys => by simp [rowOf, rowOf_append k xs ys]
theorem rowOf_length (k : IntKind) : ∀ (xs : List (Nat × Int)), (rowOf k xs).length = xs.length * 2
 | [] => rfl
 | x :: xs => by simp [rowOf, rowOf_length k xs]; omega
theorem rowOf_one (k : IntKind) : ∀ (xs : List (Nat × Int)), ∀ u ∈ rowOf k xs, u.oneCell' = true
 | [], u, h => by simp [rowOf] at h
 | x :: xs, u, h => by
  simp only [rowOf, List.mem_cons] at h
  rcases h with rfl | rfl | h
  ·rfl
  ·rfl
  ·exact rowOf_one k xs u h
theorem rowOf_even (k : IntKind) : ∀ (xs : List (Nat × Int)) (i : Nat) (h : i < xs.length), (rowOf k xs)[i * 2]? = some (.int .u32 (xs[i].1 : Int)) /\ (rowOf k xs)[i * 2 + 1]? = some (.int k xs[i].2)
 | [], i, h => by simp at h
 | x :: xs, 0, _ => by simp [rowOf]
 | x :: xs, i + 1, h => by
  have := rowOf_even k xs i (by simpa using h)
  rw [show (i + 1) * 2 = i * 2 + 1 + 1 by omega]
  simpa [rowOf] using this
theorem rowOf_cells {k : IntKind} {w : World} {ad : Addr} {n cap : Nat} {xs : List (Nat × Int)} (h : Sl k w (.slice (some ad) n cap) xs) :
  ∀ j u, (rowOf k xs)[j]? = some u -> w.cell? (ad.add j) = some u := by
 obtain ⟨ao, cap, hv, h1, h2, h3, h4⟩ := h
 simp only [Value.slice.injEq] at hv
 obtain ⟨rfl, rfl, rfl⟩ := hv
 intro j u hj
 have hjl : j < xs.length * 2 := by
  rw [<- rowOf_length k xs]
  exact (List.getElem?_eq_some_iff.1 hj).1
 obtain ⟨b, o, e, c0, c1⟩ := h4 (j / 2) (by omega)
 obtain ⟨r0, r1⟩ := rowOf_even k xs (j / 2) (by omega)
 simp only [Option.some.injEq] at e
 subst e
 rcases Nat.mod_two_eq_zero_or_one j with hm | hm
 ·rw [show j / 2 * 2 = j by omega] at r0 c0
  rw [r0] at hj
  rw [<- hj]
  rw [add_pl]; exact c0
 ·rw [show j / 2 * 2 + 1 = j by omega] at r1
  rw [show o + j / 2 * 2 + 1 = o + j by omega] at c1
  rw [r1] at hj
  rw [<- hj]
  rw [add_pl]; exact c1
theorem own_sl {k : IntKind} {w : World} {base e : Nat} {v : Value} {xs : List (Nat × Int)} (h : w.ownsRow base e 2 v xs.length (rowOf k xs)) : Sl k w v xs := by
 obtain ⟨hl, ⟨rfl, h0⟩ | ⟨g, cap, cur, rfl, hb, hh, hn, hc, hcs, hx⟩⟩ := h
 ·refine ⟨none, 0, by rw [h0], by omega, by omega, fun _ => rfl, fun i hi => by omega⟩
 ·refine ⟨some ⟨g, 0, none⟩, cap, rfl, hn, (by unfold maxLen at hc; omega), (fun h => by cases h), fun i hi => ⟨g, 0, rfl, ?_, ?_⟩⟩
  ·obtain ⟨r0, r1⟩ := rowOf_even k xs i hi
   rw [<- hx, List.getElem?_take] at r0
   split at r0
   ·simp only [World.cell?, hh]; simpa using r0
   ·simp at r0
  ·obtain ⟨r0, r1⟩ := rowOf_even k xs i hi
   rw [<- hx, List.getElem?_take] at r1
   split at r1
   ·simp only [World.cell?, hh]; simpa using r1
   ·simp at r1
set_option maxHeartbeats 1000000 in
theorem concat39 (b k : Nat) (vs : Nat -> Value) (xss : Nat -> List (Nat × Int)) (w : World) (hk : k <= 8) (hn : (joined xss k).length <= 1073741824)
  (hv : ∀ i, i < k -> w.cell? ⟨b, i, none⟩ = some (vs i) /\ Sl .i64 w (vs i) (xss i)) :
  Calls Tryz.prog 46 #[.slice (some ⟨b, 0, none⟩) k k] w fun e w' => ∃ v, e = .returned v /\ w'.ownsRow w.heap.size 45 2 v (joined xss k).length (rowOf .i64 (joined xss k)) /\ Below w.heap.size w w' := by
 have HV : Hid _ := hv
 have HJ : Hid (∀ m, m <= k -> (joined xss m).length <= 1073741824) := fun m hm => Nat.le_trans (joined_le xss m k hm) hn
 clear hv
 obtain ⟨i0, hi, hz0, hz1, hz2⟩ := info_parts info54
 have hin : Hid (Tryz.prog.info? 45 = some i0 /\ i0.zero = some (.agg #[.int .u32 0, .int .i64 0]) /\ i0.size = 2 /\ i0.bytes = 16) := ⟨hi, hz0, hz1, hz2⟩
 clear hi hz0 hz1 hz2
 go_enter Tryz.func46, Tryz.ntmps46
 go_wp2
 go_loopw [3, 11] (fun s i wr => ∃ m : Nat, m <= k /\ i = .int .i64 m /\ s = .int .i64 ((joined xss m).length : Int) /\ w = wr) (fun _ i _ => k - (intOf i).toNat)
 case atStart => exact ⟨0, Nat.zero_le _, rfl, rfl, rfl⟩
 case round =>
  obtain ⟨m, hm, rfl, rfl, rfl⟩ := hrel
  by_cases hmk : m < k
  ·obtain ⟨cv, ao, cap, hvm, h1, h2, h3, h4⟩ := HV.out m hmk
   rw [hvm] at cv
   have l0 := HJ.out m hm
   have l1 := HJ.out (m + 1) hmk
   simp only [joined, List.length_append] at l1
   clear hvm h1 h2 h3 h4
   go_wp2
   go_roundw
   case rel => exact ⟨m + 1, by omega, by go_num, by simp [joined], by first | rfl | trivial⟩
   case measure => simp [intOf]; omega
  ·obtain rfl : m = k := by omega
   go_wp2_with fail
   refine (grow58 _ _ (HJ.out m (Nat.le_refl _))).mono ?_
   rintro e w1 ⟨v, rfl, hown, hb⟩
   go_wp2
   go_loopw [6, 27] (fun s i wr => ∃ j : Nat, j <= m /\ i = .int .i64 j /\ wr.ownsRow w.heap.size 45 2 s (joined xss j).length (rowOf .i64 (joined xss j)) /\ Below w.heap.size w wr) (fun _ i _ => m - (intOf i).toNat)
   case atStart => exact ⟨0, Nat.zero_le _, rfl, hown, hb⟩
   case round =>
    obtain ⟨j, hj, rfl, hown, hb⟩ := hrel
    by_cases hjk : j < m
    ·obtain ⟨cv, hsl⟩ := HV.out j hjk
     have cv := keep_cell hb cv
     have hsl := hsl.keep hb
     obtain ⟨hi, hz0, hz1, hz2⟩ := hin.out
     have l1 := HJ.out (j + 1) hjk
     simp only [joined, List.length_append] at l1
     have hsz := hb.size
     obtain ⟨ao, cap, hvj, h1, h2, h3, h4⟩ := id hsl
     rw [hvj] at cv hsl
     clear hvj h4
     cases ao with
     | none =>
      obtain rfl := h3 rfl
      have hz : xss j = [] := List.eq_nil_of_length_eq_zero (by omega)
      rw [hz] at cv
      clear hsl h1 h2 h3
      go_wp2_with (at_builtin; refine wpList_append_own_none rfl (.tmp 31) (.tmp 32) 31 rfl w.heap.size 45 i0 2 Tryz.underlying31 hi _ _ _ rfl hown rfl ?_)
      go_roundw
      case rel => exact ⟨j + 1, by omega, by go_num, by simp only [joined, hz, List.append_nil]; exact hown, hb⟩
      case measure => simp [intOf]; omega
     | some ad =>
      have hcs := rowOf_cells hsl
      have HC : Hid _ := hcs
      clear hcs hsl h3 h1 h2
      go_wp2_with (at_builtin; refine wpList_append_own _ rfl (.tmp 31) (.tmp 32) 31 rfl w.heap.size 45 i0 _ 2 16 Tryz.underlying31 hi hz0 hz1 hz2 rfl (by decide) _ _ _ rfl hown ad (xss j).length cap (rowOf .i64 (xss j)) rfl (rowOf_length _ _) HC.out (rowOf_one _ _) (by unfold maxLen; omega) (by omega) hsz ?_; intro v' w2 hown' hgrow _)
      have R : w2.ownsRow w.heap.size 45 2 v' (joined xss (j + 1)).length (rowOf .i64 (joined xss (j + 1))) := by
       simp only [joined, rowOf_append, List.length_append]; exact hown'
      have R2 : Below w.heap.size w w2 := hb.grown hgrow hsz (own_ge hown)
      clear hown hown' hgrow HC hb
      go_wp2
      go_roundw
      case rel => exact ⟨j + 1, by omega, by go_num, R, R2⟩
      case measure => simp [intOf]; omega
    ·obtain rfl : j = m := by omega
     go_wp2
     go_ret
     exact ⟨_, rfl, hown, hb⟩
theorem cat39_1 (b : Nat) (v0 : Value) (xs : List (Nat × Int)) (w : World) (c0 : w.cell? ⟨b, 0, none⟩ = some v0) (h0 : Sl .i64 w v0 xs) (hl : xs.length <= 1073741824) :
  Calls Tryz.prog 46 #[.slice (some ⟨b, 0, none⟩) 1 1] w fun e w' => ∃ v, e = .returned v /\ w'.ownsRow w.heap.size 45 2 v xs.length (rowOf .i64 xs) /\ Below w.heap.size w w' := by
 have h := concat39 b 1 (fun _ => v0) (fun _ => xs) w (by omega) (by simpa [joined] using hl) (fun i hi => by
  obtain rfl : i = 0 := by omega
  exact ⟨c0, h0⟩)
 simpa [joined] using h
end Go.Proofs.YtimfipkbddpdmaaGreatDoor.Gm.Pg
namespace Go.Proofs.YtimfipkbddpdmaaGreatDoor.Gm
theorem box4 (w : World) (x0 x1 x2 x3 : Value) (t : Nat) : ∃ W, w.alloc (.cells #[x0, x1, x2, x3] t) = W /\ Below w.heap.size w W /\ W.heap.size = w.heap.size + 1 /\
  W.cell? ⟨w.heap.size, 0, none⟩ = some x0 /\ W.cell? ⟨w.heap.size, 1, none⟩ = some x1 /\ W.cell? ⟨w.heap.size, 2, none⟩ = some x2 /\ W.cell? ⟨w.heap.size, 3, none⟩ = some x3 /\
  Free W ⟨w.heap.size, 0, none⟩ /\ Free W ⟨w.heap.size, 1, none⟩ /\ Free W ⟨w.heap.size, 2, none⟩ /\ Free W ⟨w.heap.size, 3, none⟩ := by
 have hc : ∀ i x, #[x0, x1, x2, x3][i]? = some x -> (w.alloc (.cells #[x0, x1, x2, x3] t)).cell? ⟨w.heap.size, i, none⟩ = some x := fun i x hx => cell_newA w _ t _ i x rfl hx
 have hf : ∀ i, (w.alloc (.cells #[x0, x1, x2, x3] t)).frozen? ⟨w.heap.size, i, none⟩ = false := fun i => by rw [World.frozen?_alloc_at _ _ _ _ (by simp)]
 exact ⟨_, rfl, (Below.refl _ _).alloc (Nat.le_refl _) _, by simp, hc 0 _ rfl, hc 1 _ rfl, hc 2 _ rfl, hc 3 _ rfl, ⟨⟨_, hc 0 _ rfl⟩, hf 0⟩, ⟨⟨_, hc 1 _ rfl⟩, hf 1⟩, ⟨⟨_, hc 2 _ rfl⟩, hf 2⟩, ⟨⟨_, hc 3 _ rfl⟩, hf 3⟩⟩
set_option maxHeartbeats 1000000 in
theorem gplace16 (vm vc vp : Value) (b a : Nat) (hb : b <= 4611686018427387904) (ha : a < 4294967296) (w : World) (hm : ∃ a n p, vm = .slice a n p) (hc : ∃ a n p, vc = .slice a n p) (hp : ∃ a n p, vp = .slice a n p) :
  Calls Tryz.prog 201 #[.agg #[vm, vc, .int .u64 b, vp], .int .u32 a] w fun e w' => e = .returned (.int .u64 ((b + a : Nat) : Int)) /\ Below w.heap.size w w' := by
 obtain ⟨W, hW, hbb, hsz, c0, c1, c2, c3, _⟩ := box4 w vm vc (.int .u64 b) vp 33
 obtain ⟨_, _, _, rfl⟩ := hm
 obtain ⟨_, _, _, rfl⟩ := hc
 obtain ⟨_, _, _, rfl⟩ := hp
 have x2 : IntKind.u64.wrap (a : Int) = (a : Int) := by rw [IntKind.wrap_u64]; omega
 have x3 : IntKind.u64.wrap ((b : Int) + (a : Int)) = ((b + a : Nat) : Int) := by rw [IntKind.wrap_u64]; omega
 obtain ⟨q, hq⟩ : ∃ q, q = b + a := ⟨_, rfl⟩
 rw [<- hq] at x3
 rw [<- hq]
 clear hq
 go_enter Tryz.func201, Tryz.ntmps201
 go_wp2
 go_ret
 exact ⟨rfl, hbb⟩
set_option maxHeartbeats 1000000 in
theorem isNaN75 (a : Nat) (w : World) : Calls Tryz.prog 220 #[.int .u32 a] w fun e w' => e = .returned (.bool false) /\ w' = w := by
 go_enter Tryz.func220, Tryz.ntmps220
 go_wp2
 go_ret
 exact ⟨rfl, rfl⟩
def cmpN (a b : Nat) : Int := if a < b then -1 else if b < a then 1 else 0
set_option maxHeartbeats 1000000 in
theorem compare64 (a b : Nat) (w : World) : Calls Tryz.prog 213 #[.int .u32 a, .int .u32 b] w fun e w' => e = .returned (.int .i64 (cmpN a b)) /\ w' = w := by
 have KA := isNaN75 a w
 have KB := isNaN75 b w
 by_cases h1 : a < b
 ·have HR : Hid (cmpN a b = -1) := by show _ = _; rw [cmpN, if_pos h1]
  have y1 : (a : Int) < (b : Int) := by omega
  go_enter Tryz.func213, Tryz.ntmps213
  go_wp2_with fail
  refine KA.mono ?_
  rintro e w1 ⟨rfl, rfl⟩
  go_wp2_with fail
  refine KB.mono ?_
  rintro e w2 ⟨rfl, rfl⟩
  go_wp2
  go_ret
  exact ⟨by rw [HR.out]; rfl, rfl⟩
 ·have y1 : ¬ (a : Int) < (b : Int) := by omega
  by_cases h2 : b < a
  ·have HR : Hid (cmpN a b = 1) := by show _ = _; rw [cmpN, if_neg h1, if_pos h2]
   have y2 : (b : Int) < (a : Int) := by omega
   go_enter Tryz.func213, Tryz.ntmps213
   go_wp2_with fail
   refine KA.mono ?_
   rintro e w1 ⟨rfl, rfl⟩
   go_wp2_with fail
   refine KB.mono ?_
   rintro e w2 ⟨rfl, rfl⟩
   go_wp2
   go_ret
   exact ⟨by rw [HR.out]; rfl, rfl⟩
  ·have HR : Hid (cmpN a b = 0) := by show _ = _; rw [cmpN, if_neg h1, if_neg h2]
   have y2 : ¬ (b : Int) < (a : Int) := by omega
   go_enter Tryz.func213, Tryz.ntmps213
   go_wp2_with fail
   refine KA.mono ?_
   rintro e w1 ⟨rfl, rfl⟩
   go_wp2_with fail
   refine KB.mono ?_
   rintro e w2 ⟨rfl, rfl⟩
   go_wp2
   go_ret
   exact ⟨by rw [HR.out]; rfl, rfl⟩
set_option maxHeartbeats 1000000 in
theorem searchc63 (p n : Nat) (r : Int) (w : World) : Calls Tryz.prog 212 #[.agg #[.int .u32 p, .int .i64 r], .int .u32 n] w fun e w' => e = .returned (.int .i64 (cmpN p n)) /\ Below w.heap.size w w' := by
 obtain ⟨W, hW, hb, hsz, c0, c1, _, _⟩ := box2 w (.int .u32 p) (.int .i64 r) 45
 have K := compare64 p n W
 go_enter Tryz.func212, Tryz.ntmps212
 go_wp2_with fail
 refine K.mono ?_
 rintro e w1 ⟨rfl, rfl⟩
 go_wp2
 go_ret
 exact ⟨rfl, hb⟩
theorem lo_at {xs : List (Nat × Int)} (hs : Srt xs) (a i : Nat) (h : i < xs.length) : i < (lo xs a).length ↔ xs[i].1 < a := by
 have e := parts xs hs a a (Nat.le_refl _)
 have l := parts_len xs hs a a (Nat.le_refl _)
 constructor
 ·intro hi
  have h2 : xs[i]? = (lo xs a)[i]? := by
   conv => lhs; rw [e]
   rw [List.append_assoc, List.getElem?_append_left hi]
  rw [List.getElem?_eq_getElem h, List.getElem?_eq_getElem hi] at h2
  have h3 := Option.some.inj h2
  rw [h3]
  exact (lo_mem.1 (List.getElem_mem hi)).2
 ·intro hx
  apply Classical.byContradiction
  intro hi
  have h2 : xs[i]? = (mid xs a a ++ _root_.Go.Proofs.YtimfipkbddpdmaaGreatDoor.Gm.hi xs a)[i - (lo xs a).length]? := by
   conv => lhs; rw [e]
   rw [List.append_assoc, List.getElem?_append_right (by omega)]
  have h4 : xs[i] ∈ mid xs a a ++ _root_.Go.Proofs.YtimfipkbddpdmaaGreatDoor.Gm.hi xs a := by
   rw [List.getElem?_eq_getElem h] at h2
   exact List.mem_of_getElem? h2.symm
  rcases List.mem_append.1 h4 with g | g
  ·have := (mid_mem.1 g).2; omega
  ·have := (hi_mem.1 g).2; omega
def isIn (xs : List (Nat × Int)) (n : Nat) : Bool := xs.any (fun x => x.1 == n)
theorem isIn_at {xs : List (Nat × Int)} (hs : Srt xs) (n : Nat) (h : (lo xs n).length < xs.length) : isIn xs n = decide (xs[(lo xs n).length].1 = n) := by
 obtain ⟨m, hm⟩ : ∃ m, m = (lo xs n).length := ⟨_, rfl⟩
 have h' : m < xs.length := by omega
 have e : xs[(lo xs n).length] = xs[m] := by simp [hm]
 rw [e]
 have hge : n <= xs[m].1 := by
  have := (lo_at hs n m h').2
  omega
 rw [Bool.eq_iff_iff]
 simp only [isIn, List.any_eq_true, beq_iff_eq, decide_eq_true_eq]
 constructor
 ·rintro ⟨x, hx, e2⟩
  obtain ⟨j, hj, rfl⟩ := List.getElem_of_mem hx
  have q1 := (lo_at hs n j hj)
  have q2 : ¬ j < m := by omega
  by_cases q3 : j = m
  ·subst q3; exact e2
  ·have := List.pairwise_iff_getElem.1 hs m j h' hj (by omega)
   omega
 ·intro e2
  exact ⟨_, List.getElem_mem h', e2⟩
theorem isIn_end {xs : List (Nat × Int)} (hs : Srt xs) (n : Nat) (h : ¬ (lo xs n).length < xs.length) : isIn xs n = false := by
 rw [isIn, List.any_eq_false]
 intro x hx
 obtain ⟨j, hj, rfl⟩ := List.getElem_of_mem hx
 have := (lo_at hs n j hj)
 simp; omega
set_option maxHeartbeats 2000000 in
theorem bsearch62 (v : Value) (ps : List (Nat × Int)) (n : Nat) (w : World) (hp : Pg.Sl .i64 w v ps) (hs : Srt ps) (hl : ps.length <= 1073741824) :
  Calls Tryz.prog 211 #[v, .int .u32 n, .func (.func 212) #[] #[]] w fun e w' => e = .returned (.tuple #[.int .i64 (((lo ps n).length : Nat) : Int), .bool (isIn ps n)]) /\ Below w.heap.size w w' := by
 obtain ⟨ao, cap, rfl, h1, h2, _, h4⟩ := hp
 have HX : Hid (∀ i (h : i < ps.length), ∃ b o, ao = some ⟨b, o, none⟩ /\ w.cell? ⟨b, o + i * 2, none⟩ = some (.int .u32 (ps[i].1 : Int)) /\ w.cell? ⟨b, o + i * 2 + 1, none⟩ = some (.int .i64 ps[i].2)) := h4
 have HA : Hid (∀ i (h : i < ps.length), i < (lo ps n).length ↔ ps[i].1 < n) := fun i h => lo_at hs n i h
 have HI : Hid (∀ h : (lo ps n).length < ps.length, isIn ps n = decide (ps[(lo ps n).length].1 = n)) := isIn_at hs n
 have HE : Hid (¬ (lo ps n).length < ps.length -> isIn ps n = false) := isIn_end hs n
 have hml : (lo ps n).length <= ps.length := lo_len _ _
 generalize (lo ps n).length = m at HA HI HE hml |-
 generalize isIn ps n = bb at HI HE |-
 clear h4 hs
 go_enter Tryz.func211, Tryz.ntmps211
 go_wp2
 go_loopw [9, 10] (fun a b wr => ∃ i j : Nat, a = .int .i64 i /\ b = .int .i64 j /\ i <= m /\ m <= j /\ j <= ps.length /\ Below w.heap.size w wr) (fun a b _ => (intOf b).toNat - (intOf a).toNat)
 case atStart => exact ⟨0, ps.length, rfl, rfl, Nat.zero_le _, hml, Nat.le_refl _, Below.refl _ _⟩
 case round =>
  obtain ⟨i, j, rfl, rfl, q1, q2, q3, hb⟩ := hrel
  by_cases hij : i < j
  ·obtain ⟨h, hh⟩ : ∃ h, h = (i + j) / 2 := ⟨_, rfl⟩
   have g1 : i <= h := by omega
   have g2 : h < j := by omega
   have g3 : h < ps.length := by omega
   have y1 : IntKind.u64.wrap ((i : Int) + (j : Int)) / 2 = (h : Int) := by rw [IntKind.wrap_u64]; omega
   have y2 : ((i : Int) + (j : Int)) / 2 = (h : Int) := by omega
   have y3 : IntKind.u64.wrap ((i : Int) + (j : Int)) = (i : Int) + (j : Int) := by rw [IntKind.wrap_u64]; omega
   obtain ⟨b, o, rfl, d0, d1⟩ := HX.out h g3
   have d0 := keep_cell hb d0
   have d1 := keep_cell hb d1
   have ha := HA.out h g3
   generalize ps[h].1 = p at d0 ha
   generalize ps[h].2 = r at d1
   have K := searchc63 p n r wr
   clear hh
   by_cases hp : h < m
   ·have e1 : cmpN p n = -1 := by rw [cmpN, if_pos (ha.1 hp)]
    rw [e1] at K
    clear ha
    go_wp2_with fail
    refine K.mono ?_
    rintro e w1 ⟨rfl, hb1⟩
    go_wp2
    go_roundw
    case rel => exact ⟨h + 1, j, by go_num, rfl, by omega, q2, q3, below_tr hb hb1⟩
    case measure => simp [intOf]; omega
   ·have e1 : ¬ cmpN p n < 0 := by
     have : ¬ p < n := fun c => hp (ha.2 c)
     rw [cmpN, if_neg this]
     split <;> decide
    generalize cmpN p n = cc at K e1
    clear ha
    go_wp2_with fail
    refine K.mono ?_
    rintro e w1 ⟨rfl, hb1⟩
    go_wp2
    go_roundw
    case rel => exact ⟨i, h, rfl, rfl, q1, by omega, by omega, below_tr hb hb1⟩
    case measure => simp [intOf]; omega
  ·obtain rfl : i = m := by omega
   by_cases hil : i < ps.length
   ·obtain ⟨b, o, rfl, d0, d1⟩ := HX.out i hil
    have d0 := keep_cell hb d0
    have d1 := keep_cell hb d1
    have hi := HI.out hil
    generalize ps[i].1 = p at d0 hi
    generalize ps[i].2 = r at d1
    have K := searchc63 p n r wr
    have HR : Hid ((cmpN p n == 0) = bb) := by
     show _ = _
     rw [hi, cmpN, Bool.eq_iff_iff]
     simp only [beq_iff_eq, decide_eq_true_eq]
     split
     ·constructor
      ·intro c; cases c
      ·omega
     ·split
      ·constructor
       ·intro c; cases c
       ·omega
      ·simp; omega
    have e1 := HR.out
    generalize cmpN p n = cc at K HR e1
    clear hi HI HE
    go_wp2_with fail
    refine K.mono ?_
    rintro e w1 ⟨rfl, hb1⟩
    go_wp2
    go_ret2
    exact ⟨rfl, below_tr hb hb1⟩
   ·have HR : Hid (bb = false) := HE.out hil
    obtain rfl : i = ps.length := by omega
    go_wp2
    go_ret2
    exact ⟨by rw [HR.out]; rfl, hb⟩
set_option maxHeartbeats 2000000 in
theorem gsearch37 (v : Value) (ps : List (Nat × Int)) (n : Nat) (w : World) (hp : Pg.Sl .i64 w v ps) (hs : Srt ps) (hl : ps.length <= 1073741824) :
  Calls Tryz.prog 202 #[v, .int .u32 n] w fun e w' => e = .returned (.tuple #[.int .i64 (((lo ps n).length : Nat) : Int), .bool (isIn ps n)]) /\ Below w.heap.size w w' := by
 have K := bsearch62 v ps n w hp hs hl
 obtain ⟨_, _, rfl, _⟩ := hp
 generalize (lo ps n).length = m at K |-
 generalize isIn ps n = bb at K |-
 go_enter Tryz.func202, Tryz.ntmps202
 go_wp2_with fail
 refine K.mono ?_
 rintro e w1 ⟨rfl, hb1⟩
 go_wp2
 go_ret2
 exact ⟨rfl, hb1⟩
def protN (ps : List (Nat × Int)) (n : Nat) : Int := match ps.find? (fun x => x.1 == n) with | some x => x.2 | none => -1
theorem protN_in {ps : List (Nat × Int)} (hs : Srt ps) {x : Nat × Int} (hx : x ∈ ps) : protN ps x.1 = x.2 := by rw [protN, find_mem hs hx]
theorem protN_no {ps : List (Nat × Int)} {n : Nat} (h : isIn ps n = false) : protN ps n = -1 := by
 rw [protN, find_none]
 intro x hx e
 rw [isIn, List.any_eq_false] at h
 exact absurd e (by simpa using h x hx)
set_option maxHeartbeats 2000000 in
theorem gprot14 (vm vc vp : Value) (b n : Nat) (ps : List (Nat × Int)) (w : World) (hm : ∃ a n p, vm = .slice a n p) (hc : ∃ a n p, vc = .slice a n p) (hp : Pg.Sl .i64 w vp ps) (hs : Srt ps) (hl : ps.length <= 1073741824) :
  Calls Tryz.prog 149 #[.agg #[vm, vc, .int .u64 b, vp], .int .u32 n] w fun e w' => e = .returned (.int .i64 (protN ps n)) /\ Below w.heap.size w w' := by
 obtain ⟨W, hW, hbb, hsz, c0, c1, c2, c3, _⟩ := box4 w vm vc (.int .u64 b) vp 33
 obtain ⟨_, _, _, rfl⟩ := hm
 obtain ⟨_, _, _, rfl⟩ := hc
 have hpW := hp.keep hbb
 have K := gsearch37 vp ps n W hpW hs hl
 obtain ⟨ao, cap, rfl, h1, h2, _, h4⟩ := hpW
 cases hin : isIn ps n with
 | false =>
  rw [hin] at K
  have HR : Hid (protN ps n = -1) := protN_no hin
  generalize (lo ps n).length = f at K
  clear h4 hin hp hs
  go_enter Tryz.func149, Tryz.ntmps149
  go_wp2_with fail
  refine K.mono ?_
  rintro e w1 ⟨rfl, hb1⟩
  go_wp2
  go_ret
  exact ⟨by rw [HR.out]; rfl, below_tr hbb hb1⟩
 | true =>
  rw [hin] at K
  have hlt : (lo ps n).length < ps.length := by
   apply Classical.byContradiction
   intro c
   rw [isIn_end hs n c] at hin
   cases hin
  have he0 := isIn_at hs n hlt
  rw [hin] at he0
  have he : ps[(lo ps n).length].1 = n := by simpa using he0.symm
  clear he0
  have HR : Hid (protN ps n = ps[(lo ps n).length].2) := by
   show _ = _
   have := protN_in hs (List.getElem_mem hlt)
   rw [he] at this
   exact this
  obtain ⟨bb, o, rfl, d0, d1⟩ := h4 _ hlt
  generalize ps[(lo ps n).length].2 = r at HR d1
  generalize (lo ps n).length = f at K d1 hlt
  have x1 : (f : Int) < (ps.length : Int) := by omega
  clear h4 hin hp hs he d0
  go_enter Tryz.func149, Tryz.ntmps149
  go_wp2_with fail
  refine K.mono ?_
  rintro e w1 ⟨rfl, hb1⟩
  have d1 := keep_cell hb1 d1
  have c3 := keep_cell hb1 c3
  go_wp2
  go_ret
  exact ⟨by rw [HR.out]; rfl, below_tr hbb hb1⟩
def OwnG (B : Nat) (w : World) (vm vc vp : Value) (ms cs ps : List (Nat × Int)) : Prop := OwnH B w vm vc ms cs /\ w.ownsRow B 45 2 vp ps.length (Pg.rowOf .i64 ps)
theorem OwnG.keep {B : Nat} {w w' : World} {vm vc vp : Value} {ms cs ps : List (Nat × Int)} (h : OwnG B w vm vc vp ms cs ps) (hb : Below w.heap.size w w') : OwnG B w' vm vc vp ms cs ps := ⟨h.1.keep hb, own_keep h.2 hb⟩
theorem OwnG.p {B : Nat} {w : World} {vm vc vp : Value} {ms cs ps : List (Nat × Int)} (h : OwnG B w vm vc vp ms cs ps) : Pg.Sl .i64 w vp ps := Pg.own_sl h.2
theorem OwnG.base {B B' : Nat} {w : World} {vm vc vp : Value} {ms cs ps : List (Nat × Int)} (h : OwnG B w vm vc vp ms cs ps) (hB : B' <= B) : OwnG B' w vm vc vp ms cs ps := ⟨h.1.base hB, own_base h.2 hB⟩
theorem box44 (w : World) (x0 x1 x2 x3 y0 y1 y2 y3 : Value) (t s : Nat) : ∃ W, (w.alloc (.cells #[x0, x1, x2, x3] t)).alloc (.cells #[y0, y1, y2, y3] s) = W /\ Below w.heap.size w W /\ W.heap.size = w.heap.size + 1 + 1 /\
  W.cell? ⟨w.heap.size, 0, none⟩ = some x0 /\ W.cell? ⟨w.heap.size, 1, none⟩ = some x1 /\ W.cell? ⟨w.heap.size, 2, none⟩ = some x2 /\ W.cell? ⟨w.heap.size, 3, none⟩ = some x3 /\
  Free W ⟨w.heap.size + 1, 0, none⟩ /\ Free W ⟨w.heap.size + 1, 1, none⟩ /\ Free W ⟨w.heap.size + 1, 2, none⟩ /\ Free W ⟨w.heap.size + 1, 3, none⟩ := by
 obtain ⟨X, hX, hx, hsx, c0, c1, c2, c3, _⟩ := box4 w x0 x1 x2 x3 t
 obtain ⟨W, hW, hb, hs, _, _, _, _, f0, f1, f2, f3⟩ := box4 X y0 y1 y2 y3 s
 rw [hsx] at f0 f1 f2 f3 hs
 exact ⟨W, by rw [hX, hW], below_tr hx hb, hs, keep_cell hb c0, keep_cell hb c1, keep_cell hb c2, keep_cell hb c3, f0, f1, f2, f3⟩
theorem resG4 (w : World) (n : Nat) (x0 x1 x2 x3 : Value) (h0 : Free w ⟨n, 0, none⟩) (h1 : Free w ⟨n, 1, none⟩) (h2 : Free w ⟨n, 2, none⟩) (h3 : Free w ⟨n, 3, none⟩) :
  ((((w.setCell ⟨n, 0, none⟩ x0).setCell ⟨n, 1, none⟩ x1).setCell ⟨n, 2, none⟩ x2).setCell ⟨n, 3, none⟩ x3).cell? ⟨n, 0, none⟩ = some x0 /\ ((((w.setCell ⟨n, 0, none⟩ x0).setCell ⟨n, 1, none⟩ x1).setCell ⟨n, 2, none⟩ x2).setCell ⟨n, 3, none⟩ x3).cell? ⟨n, 1, none⟩ = some x1 /\
  ((((w.setCell ⟨n, 0, none⟩ x0).setCell ⟨n, 1, none⟩ x1).setCell ⟨n, 2, none⟩ x2).setCell ⟨n, 3, none⟩ x3).cell? ⟨n, 2, none⟩ = some x2 /\ ((((w.setCell ⟨n, 0, none⟩ x0).setCell ⟨n, 1, none⟩ x1).setCell ⟨n, 2, none⟩ x2).setCell ⟨n, 3, none⟩ x3).cell? ⟨n, 3, none⟩ = some x3 := by
 refine ⟨?_, ?_, ?_, ?_⟩
 ·rw [World.cell?_setCell_other _ _ _ _ (by simp), World.cell?_setCell_other _ _ _ _ (by simp), World.cell?_setCell_other _ _ _ _ (by simp)]; exact World.cell?_setCell_same _ _ _ h0.cell
 ·rw [World.cell?_setCell_other _ _ _ _ (by simp), World.cell?_setCell_other _ _ _ _ (by simp)]; exact World.cell?_setCell_same _ _ _ (h1.set _ _).cell
 ·rw [World.cell?_setCell_other _ _ _ _ (by simp)]; exact World.cell?_setCell_same _ _ _ ((h2.set _ _).set _ _).cell
 ·exact World.cell?_setCell_same _ _ _ (((h3.set _ _).set _ _).set _ _).cell
theorem res4_G {w : World} {n B C b : Nat} {x0 x1 x2 x3 vm vc vp : Value} {ms cs ps : List (Nat × Int)} (h : OwnG C w vm vc vp ms cs ps) (hn : n < C) (hB : B <= C) :
  OwnG B ((((w.setCell ⟨n, 0, none⟩ x0).setCell ⟨n, 1, none⟩ x1).setCell ⟨n, 2, none⟩ x2).setCell ⟨n, 3, none⟩ x3) vm vc vp ms cs ps := by
 have k : ∀ {w : World} (a : Addr) (u : Value), a.block < C -> OwnG C w vm vc vp ms cs ps -> OwnG C (w.setCell a u) vm vc vp ms cs ps := fun a u ha h => ⟨⟨ownsRow_setCell_below h.1.1 ha u, ownsRow_setCell_below h.1.2 ha u⟩, ownsRow_setCell_below h.2 ha u⟩
 exact (k _ _ (by simpa using hn) (k _ _ (by simpa using hn) (k _ _ (by simpa using hn) (k _ _ (by simpa using hn) h)))).base hB
set_option maxHeartbeats 4000000 in
theorem gfresh40 (vm vc vp : Value) (bs : Nat) (ms cs ps : List (Nat × Int)) (w : World) (hm : Sl .i64 w vm ms) (hc : Sl .u64 w vc cs) (hp : Pg.Sl .i64 w vp ps) (lm : ms.length <= 1073741824) (lc : cs.length <= 1073741824) (lp : ps.length <= 1073741824) :
  Calls Tryz.prog 21 #[.agg #[vm, vc, .int .u64 bs, vp]] w fun e w' => ∃ am nm pm ac nc pc ap np pp, e = .returned (.agg #[.slice am nm pm, .slice ac nc pc, .int .u64 bs, .slice ap np pp]) /\ OwnG w.heap.size w' (.slice am nm pm) (.slice ac nc pc) (.slice ap np pp) ms cs ps /\ Below w.heap.size w w' := by
 obtain ⟨W, hW, hb, hsz, c0, c1, c2, c3, g0, g1, g2, g3⟩ := box44 w vm vc (.int .u64 bs) vp (.slice none 0 0) (.slice none 0 0) (.int .u64 0) (.slice none 0 0) 33 33
 have K65 : Hid (∀ w1, Below W.heap.size W w1 -> Calls Tryz.prog 45 #[.agg #[vm, vc]] w1 fun e w' => ∃ a n p a' n' p', e = .returned (.agg #[.slice a n p, .slice a' n' p']) /\ w'.ownsRow (w.heap.size + 2) 86 2 (.slice a n p) ms.length (rowOf .i64 ms) /\ w'.ownsRow (w.heap.size + 2) 48 2 (.slice a' n' p') cs.length (rowOf .u64 cs) /\ Below w1.heap.size w1 w') := fun w1 hb1 =>
  (copied37 vm vc ms cs w1 (hm.keep (below_tr hb hb1)) (hc.keep (below_tr hb hb1)) lm lc).mono (by
   rintro e w' ⟨vm', vc', rfl, ho, ho', hB⟩
   obtain ⟨a, n, p, rfl⟩ := own_shape ho
   obtain ⟨a', n', p', rfl⟩ := own_shape ho'
   exact ⟨a, n, p, a', n', p', rfl, own_base ho (by have := hb1.size; omega), own_base ho' (by have := hb1.size; omega), hB⟩)
 have K66 : Hid (∀ b w1, Below W.heap.size W w1 -> w1.cell? ⟨b, 0, none⟩ = some vp -> Calls Tryz.prog 46 #[.slice (some ⟨b, 0, none⟩) 1 1] w1 fun e w' => ∃ a n p, e = .returned (.slice a n p) /\ w'.ownsRow (w.heap.size + 2) 45 2 (.slice a n p) ps.length (Pg.rowOf .i64 ps) /\ Below w1.heap.size w1 w') := fun b w1 hb1 hc1 =>
  (Pg.cat39_1 b vp ps w1 hc1 (hp.keep (below_tr hb hb1)) lp).mono (by rintro e w' ⟨v, rfl, ho, hB⟩; obtain ⟨a, n, p, rfl⟩ := own_shape ho; exact ⟨a, n, p, rfl, own_base ho (by have := hb1.size; omega), hB⟩)
 obtain ⟨xm, ym, zm, rfl⟩ : ∃ a n p, vm = .slice a n p := by obtain ⟨a, p, h, _⟩ := hm; exact ⟨_, _, _, h⟩
 obtain ⟨xc, yc, zc, rfl⟩ : ∃ a n p, vc = .slice a n p := by obtain ⟨a, p, h, _⟩ := hc; exact ⟨_, _, _, h⟩
 obtain ⟨xp, yp, zp, rfl⟩ : ∃ a n p, vp = .slice a n p := by obtain ⟨a, p, h, _⟩ := hp; exact ⟨_, _, _, h⟩
 clear hm hc hp lm lc lp
 go_enter Tryz.func21, Tryz.ntmps21
 go_wp2
 go_region_held3 (fun w' => Below w.heap.size w w' /\ w'.cell? ⟨w.heap.size, 0, none⟩ = some (.slice xm ym zm) /\ w'.cell? ⟨w.heap.size, 1, none⟩ = some (.slice xc yc zc) /\ w'.cell? ⟨w.heap.size, 2, none⟩ = some (.int .u64 bs) /\ w'.cell? ⟨w.heap.size, 3, none⟩ = some (.slice xp yp zp) /\ w'.cell? ⟨w.heap.size + 1, 0, none⟩ = some (cellAt w' ⟨w.heap.size + 1, 0, none⟩) /\ w'.cell? ⟨w.heap.size + 1, 1, none⟩ = some (cellAt w' ⟨w.heap.size + 1, 1, none⟩) /\ w'.cell? ⟨w.heap.size + 1, 2, none⟩ = some (cellAt w' ⟨w.heap.size + 1, 2, none⟩) /\ w'.cell? ⟨w.heap.size + 1, 3, none⟩ = some (cellAt w' ⟨w.heap.size + 1, 3, none⟩) /\ w'.frozen? ⟨w.heap.size + 1, 0, none⟩ = false /\ w'.frozen? ⟨w.heap.size + 1, 1, none⟩ = false /\ w'.frozen? ⟨w.heap.size + 1, 2, none⟩ = false /\ w'.frozen? ⟨w.heap.size + 1, 3, none⟩ = false)
  (refine ⟨?_, ?_, ?_, ?_, ?_, ?_, ?_, ?_, ?_, ?_, ?_, ?_, ?_⟩ <;> first | (with_reducible refine Free.cell ?_; exact freeA) | (with_reducible refine Free.frozen ?_; exact freeA) | exact belA | exact cellA)
  (first | (go_at_call 45; refine (K65.out _ belA).mono ?_; rintro e w' ⟨a1, n1, p1, a2, n2, p2, rfl, ho1, ho2, hB1⟩) | (go_at_call 46; refine (K66.out _ _ belA cellA).mono ?_; rintro e w' ⟨a3, n3, p3, rfl, ho3, hB3⟩))
 all_goals (go_wp2; (try simp only [Exit.inBlock, Exit.then]))
 all_goals have r := resG4 w' (w.heap.size + 1) (.slice a1 n1 p1) (.slice a2 n2 p2) (.int .u64 bs) (.slice a3 n3 p3) freeA freeA freeA freeA
 all_goals obtain ⟨r0, r1, r2, r3⟩ := r
 all_goals refine bodyPost_ret (v := .agg #[.slice a1 n1 p1, .slice a2 n2 p2, .int .u64 bs, .slice a3 n3 p3]) ?_ rfl ⟨_, _, _, _, _, _, _, _, _, rfl, res4_G (b := 0) (C := w.heap.size + 2) ⟨⟨ownA, ownA⟩, ownA⟩ (by omega) (by omega), belA⟩
 all_goals (rw [results_cell1 rfl]; simp [go_sem, r0, r1, r2, r3])
def hp (bs k : Nat) : Nat := bs / 16384 + k
end Go.Proofs.YtimfipkbddpdmaaGreatDoor.Gm
