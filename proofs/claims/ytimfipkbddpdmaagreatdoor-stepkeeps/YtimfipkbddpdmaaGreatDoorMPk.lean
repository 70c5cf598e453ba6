import Derived.Test.YtimfipkbddpdmaaGreatDoorLast
import Derived.Test.YtimfipkbddpdmaaGreatDoorMHeld
import Derived.Test.YtimfipkbddpdmaaGreatDoorMSpan
import Derived.Test.YtimfipkbddpdmaaGreatDoorMH
import Derived.Test.YtimfipkbddpdmaaGreatDoorMGdoc
set_option linter.unusedVariables false
set_option linter.unusedSimpArgs false
set_option maxRecDepth 100000
open Go Go.RowKit
namespace Go.Proofs.YtimfipkbddpdmaaGreatDoor.Gm
theorem cells2 (w : World) (x y : Value) (t : Nat) : ∀ j u, [x, y][j]? = some u -> (w.alloc (.cells #[x, y] t)).cell? ((⟨w.heap.size, 0, none⟩ : Addr).add j) = some u := by
 intro j u hj
 match j, hj with
 | 0, hj => simp at hj; subst hj; simp [Addr.add]
 | 1, hj => simp at hj; subst hj; simp [Addr.add]
theorem one2 (k : IntKind) (a b : Int) : ∀ u ∈ [Value.int .u64 a, Value.int k b], u.oneCell' = true := by
 intro u hu; simp at hu; rcases hu with rfl | rfl <;> rfl
theorem app_own {k : IntKind} {w : World} {B e : Nat} {v : Value} {xs : List (Nat × Int)} {p : Nat} {r : Int} (h : w.ownsRow B e 2 v (xs.length + 1) (rowOf k xs ++ [.int .u64 p, .int k r])) :
  w.ownsRow B e 2 v (xs ++ [(p, r)]).length (rowOf k (xs ++ [(p, r)])) := by
 rw [rowOf_append]
 simpa [rowOf] using h
theorem app_below {B : Nat} {w0 w w2 : World} {row : Option Nat} (o : Obj) (h : Below B w0 w) (hB : B <= w.heap.size) (hg : (w.alloc o).grownBy w2 row) (hr : ∀ k, row = some k -> B <= k) : Below B w0 w2 :=
 (h.alloc hB o).grown hg (by simp; omega) hr
theorem wordOf_some (xs : List (Nat × Int)) (p k : Nat) (h : k < xs.length) (e : xs[k].1 = p) (hn : ∀ j (hj : j < k), xs[j].1 ≠ p) : wordOf xs p = xs[k].2 := by
 have : xs.find? (fun x => x.1 == p) = some xs[k] := by
  rw [List.find?_eq_some_iff_getElem]
  exact ⟨by simpa using e, k, h, rfl, fun j hj => by simpa using hn j hj⟩
 rw [wordOf, this]
theorem wordOf_none (xs : List (Nat × Int)) (p : Nat) (hn : ∀ j (hj : j < xs.length), xs[j].1 ≠ p) : wordOf xs p = 0 := by
 have : xs.find? (fun x => x.1 == p) = none := by
  rw [List.find?_eq_none]
  intro x hx
  obtain ⟨j, hj, rfl⟩ := List.getElem_of_mem hx
  simpa using hn j hj
 rw [wordOf, this]
set_option maxHeartbeats 1000000 in
theorem word54 (vm vc : Value) (ms : List (Nat × Int)) (p : Nat) (w : World) (hm : Sl .u64 w vm ms) (hc : ∃ a n q, vc = .slice a n q) :
  Calls Tryz.prog 23 #[.agg #[vc, vm], .int .u64 p] w fun e w' => e = .returned (.int .u64 (wordOf ms p)) /\ Below w.heap.size w w' := by
 obtain ⟨W, hW, hb, hsz, c0, c1, _, _⟩ := box2 w vc vm 29
 obtain ⟨ao, cap, rfl, h1, h2, h3, h4⟩ := hm
 obtain ⟨a, n, q, rfl⟩ := hc
 have HC : Hid (∀ i (h : i < ms.length), ∃ b o, ao = some ⟨b, o, none⟩ /\ W.cell? ⟨b, o + i * 2, none⟩ = some (.int .u64 (ms[i].1 : Int)) /\ W.cell? ⟨b, o + i * 2 + 1, none⟩ = some (.int .u64 ms[i].2)) := fun i hi => by
  obtain ⟨b, o, e, d0, d1⟩ := h4 i hi
  exact ⟨b, o, e, keep_cell hb d0, keep_cell hb d1⟩
 clear h3 h4
 go_enter Tryz.func23, Tryz.ntmps23
 go_wp2
 go_loopw [5] (fun i wr => ∃ k : Nat, k <= ms.length /\ i = .int .i64 k /\ W = wr /\ ∀ j (hj : j < k) (hl : j < ms.length), ms[j].1 ≠ p) (fun i _ => ms.length - (intOf i).toNat)
 case atStart => exact ⟨0, Nat.zero_le _, rfl, rfl, fun j hj => by omega⟩
 case round =>
  obtain ⟨k, hk, rfl, rfl, hno⟩ := hrel
  have HN : Hid _ := hno
  clear hno
  by_cases hkl : k < ms.length
  ·obtain ⟨b, o, rfl, d0, d1⟩ := HC.out k hkl
   by_cases hp : ms[k].1 = p
   ·have HR : Hid (wordOf ms p = ms[k].2) := wordOf_some ms p k hkl hp (fun j hj => HN.out j hj (by omega))
    rw [hp] at d0
    go_wp2
    go_ret
    exact ⟨by rw [HR.out]; rfl, hb⟩
   ·obtain ⟨x, hx⟩ : ∃ x, x = ms[k].1 := ⟨_, rfl⟩
    rw [<- hx] at d0 hp
    have hpi : ((x : Int) == (p : Int)) = false := by simp; omega
    go_wp2
    go_roundw
    case rel => exact ⟨k + 1, by omega, by go_num, by first | rfl | trivial, fun j hj hl => by
     by_cases e : j = k
     ·subst e; omega
     ·exact HN.out j (by omega) hl⟩
    case measure => simp [intOf]; omega
  ·have HR : Hid (wordOf ms p = 0) := wordOf_none ms p (fun j hj => HN.out j (by omega) hj)
   go_wp2
   go_ret
   exact ⟨by rw [HR.out]; rfl, hb⟩
def faultR (ms : List (Nat × Int)) (a : Nat) (need : Int) : Int := match ms.find? (fun x => x.1 == a / 16384) with | none => 1 | some x => if bits .and .i64 x.2 need = 0 then 2 else 0
theorem place_find (ms : List (Nat × Int)) (p : Nat) : (placeOf ms p = -1 /\ ms.find? (fun x => x.1 == p) = none) \/ ∃ k, ∃ h : k < ms.length, placeOf ms p = (k : Int) /\ ms.find? (fun x => x.1 == p) = some ms[k] := by
 unfold placeOf
 cases hf : ms.findIdx? (fun x => x.1 == p) with
 | none =>
  left
  refine ⟨rfl, ?_⟩
  rw [List.findIdx?_eq_none_iff] at hf
  rw [List.find?_eq_none]
  intro x hx
  simpa using hf x hx
 | some k =>
  right
  rw [List.findIdx?_eq_some_iff_getElem] at hf
  obtain ⟨h, h1, h2⟩ := hf
  refine ⟨k, h, rfl, ?_⟩
  rw [List.find?_eq_some_iff_getElem]
  exact ⟨h1, k, h, rfl, fun j hj => by simpa using h2 j hj⟩
theorem faultK_R (ms : List (Nat × Int)) (a i : Nat) (need : Int) : faultK ms a i need = if 18446744073709551616 <= a + i then 1 else faultR ms ((a + i) % 18446744073709551616) need := by
 rw [faultK, faultR]
 by_cases h : 18446744073709551616 <= a + i
 ·rw [if_pos h]; split
  ·rfl
  ·rw [if_pos h]
 ·rw [if_neg h]
  cases ms.find? (fun x => x.1 == (a + i) % 18446744073709551616 / 16384) with
  | none => rfl
  | some x => simp only [if_neg h]
def metB (b wd : Nat) (xs : List (Nat × Int)) : Bool := decide (wd = 0) || xs.any (fun x => decide (b <= x.1))
def outL (b wd : Nat) (xs : List (Nat × Int)) : List (Nat × Int) := lo xs b ++ (if metB b wd xs then cellIf b wd else []) ++ hi xs b
theorem lo_snoc (xs : List (Nat × Int)) (x : Nat × Int) (b : Nat) : lo (xs ++ [x]) b = lo xs b ++ (if x.1 < b then [x] else []) := by
 rw [lo, List.filter_append]
 congr 1
 by_cases h : x.1 < b
 ·simp [h]
 ·simp [h]
theorem hi_snoc (xs : List (Nat × Int)) (x : Nat × Int) (b : Nat) : hi (xs ++ [x]) b = hi xs b ++ (if b < x.1 then [x] else []) := by
 rw [hi, List.filter_append]
 congr 1
 by_cases h : b < x.1
 ·simp [h]
 ·simp [h]
theorem met_snoc (b wd : Nat) (xs : List (Nat × Int)) (x : Nat × Int) : metB b wd (xs ++ [x]) = (metB b wd xs || decide (b <= x.1)) := by
 simp [metB, List.any_append, Bool.or_assoc]
theorem hi_nil {xs : List (Nat × Int)} {b : Nat} (h : ∀ y ∈ xs, y.1 <= b) : hi xs b = [] := by
 rw [hi, List.filter_eq_nil_iff]
 intro y hy
 have := h y hy
 simp; omega
theorem met_no {b wd : Nat} {xs : List (Nat × Int)} (h : ∀ y ∈ xs, y.1 < b) : metB b wd xs = decide (wd = 0) := by
 rw [metB]
 have : xs.any (fun x => decide (b <= x.1)) = false := by
  rw [List.any_eq_false]
  intro y hy
  have := h y hy
  simp; omega
 rw [this, Bool.or_false]
theorem cellIf_zero (b : Nat) : cellIf b 0 = [] := by simp [cellIf]
theorem out_nil (b wd : Nat) : outL b wd [] = [] := by
 by_cases h : wd = 0
 ·subst h; simp [outL, lo, hi, cellIf]
 ·simp [outL, lo, hi, metB, h]
theorem out_lt {b wd : Nat} {xs : List (Nat × Int)} {x : Nat × Int} (hs : ∀ y ∈ xs, y.1 < x.1) (h : x.1 < b) : outL b wd (xs ++ [x]) = outL b wd xs ++ [x] /\ metB b wd (xs ++ [x]) = metB b wd xs := by
 have h1 : ∀ y ∈ xs, y.1 < b := fun y hy => by have := hs y hy; omega
 have hm : metB b wd (xs ++ [x]) = metB b wd xs := by rw [met_snoc, decide_eq_false (by omega), Bool.or_false]
 refine ⟨?_, hm⟩
 have he : (if metB b wd xs = true then cellIf b wd else []) = [] := by
  rw [met_no h1]
  by_cases w0 : wd = 0
  ·rw [w0, cellIf_zero]; simp
  ·simp [w0]
 rw [outL, outL, lo_snoc, hi_snoc, hm, he, if_pos h, if_neg (by omega), hi_nil (fun y hy => by have := h1 y hy; omega)]
 simp
theorem out_eq {b wd : Nat} {xs : List (Nat × Int)} {x : Nat × Int} (hs : ∀ y ∈ xs, y.1 < x.1) (h : x.1 = b) : outL b wd (xs ++ [x]) = outL b wd xs ++ cellIf b wd /\ metB b wd (xs ++ [x]) = true /\ metB b wd xs = decide (wd = 0) := by
 have h1 : ∀ y ∈ xs, y.1 < b := fun y hy => by have := hs y hy; omega
 have hm : metB b wd (xs ++ [x]) = true := by rw [met_snoc, decide_eq_true (by omega), Bool.or_true]
 refine ⟨?_, hm, met_no h1⟩
 have he : (if metB b wd xs = true then cellIf b wd else []) = [] := by
  rw [met_no h1]
  by_cases w0 : wd = 0
  ·rw [w0, cellIf_zero]; simp
  ·simp [w0]
 rw [outL, outL, lo_snoc, hi_snoc, hm, he, if_neg (show ¬ x.1 < b by omega), if_neg (show ¬ b < x.1 by omega), hi_nil (fun y hy => by have := h1 y hy; omega)]
 simp
theorem out_gt {b wd : Nat} {xs : List (Nat × Int)} {x : Nat × Int} (h : b < x.1) (hm0 : metB b wd xs = true \/ ∀ y ∈ xs, y.1 < b) : outL b wd (xs ++ [x]) = outL b wd xs ++ (if metB b wd xs then [] else cellIf b wd) ++ [x] /\ metB b wd (xs ++ [x]) = true := by
 have hm : metB b wd (xs ++ [x]) = true := by rw [met_snoc, decide_eq_true (by omega), Bool.or_true]
 refine ⟨?_, hm⟩
 rw [outL, outL, lo_snoc, hi_snoc, hm, if_neg (by omega), if_pos h, List.append_nil]
 by_cases hm1 : metB b wd xs = true
 ·rw [hm1]; simp
 ·rcases hm0 with q | q
  ·exact absurd q hm1
  ·rw [hi_nil (fun y hy => by have := q y hy; omega)]
   simp [hm1]
def pokeL (cs : List (Nat × Int)) (b wd : Nat) : List (Nat × Int) := lo cs b ++ cellIf b wd ++ hi cs b
theorem met_or {b wd : Nat} (xs : List (Nat × Int)) : metB b wd xs = true \/ ∀ y ∈ xs, y.1 < b := by
 by_cases h : metB b wd xs = true
 ·exact Or.inl h
 ·right
  intro y hy
  rw [metB] at h
  simp at h
  have := h.2 y.1 y.2 hy
  omega
theorem out_end (cs : List (Nat × Int)) (b wd : Nat) : (metB b wd cs = true -> outL b wd cs = pokeL cs b wd) /\ (metB b wd cs = false -> outL b wd cs ++ [(b, (wd : Int))] = pokeL cs b wd) := by
 constructor
 ·intro h; rw [outL, pokeL, h]; simp
 ·intro h
  have hw : wd ≠ 0 := by
   intro e; rw [e, metB] at h; simp at h
  rcases met_or (b := b) (wd := wd) cs with q | q
  ·rw [h] at q; cases q
  ·have hn := hi_nil (xs := cs) (b := b) (fun y hy => by have := q y hy; omega)
   rw [outL, pokeL, h, hn, cellIf, if_neg hw]; simp
def pokeW (cs : List (Nat × Int)) (a bt : Nat) : Nat := clr (wordN cs (cellOf a)) (255 * 2 ^ (8 * (a % 8))) ||| bt * 2 ^ (8 * (a % 8))
theorem pow_le (r : Nat) (h : r < 8) : 2 ^ (8 * r) <= 2 ^ 56 := Nat.pow_le_pow_right (by omega) (by omega)
set_option maxHeartbeats 1000000 in
theorem fault61 (vm vc : Value) (ms : List (Nat × Int)) (a : Nat) (need : Int) (w : World) (hm : Sl .i64 w vm ms) (hc : ∃ x n q, vc = .slice x n q) (ha : a < 18446744073709551616) :
  Calls Tryz.prog 92 #[.agg #[vm, vc], .int .u64 a, .int .i64 need] w fun e w' => e = .returned (.int .i64 (faultR ms a need)) /\ Below w.heap.size w w' := by
 obtain ⟨W, hW, hb, hsz, c0, c1, _, _⟩ := box2 w vm vc 29
 have K33 := place33 vm vc ms (a / 16384) W (hm.keep hb) hc
 obtain ⟨pg, hpg⟩ : ∃ x, x = a / 16384 := ⟨_, rfl⟩
 have x1 : IntKind.u64.wrap ((a : Int) / 16384) = (pg : Int) := by rw [IntKind.wrap_u64]; omega
 obtain ⟨ao, cap, rfl, h1, h2, h3, h4⟩ := hm.keep hb
 obtain ⟨x, n, q, rfl⟩ := hc
 rw [<- hpg] at K33
 rcases place_find ms pg with ⟨p1, p2⟩ | ⟨k, hk, p1, p2⟩
 ·have HR : Hid (faultR ms a need = 1) := by show _ = _; rw [faultR, <- hpg, p2]
  rw [p1] at K33
  clear h4 hm p1 p2 hpg h3
  go_enter Tryz.func92, Tryz.ntmps92
  go_wp2_with fail
  refine K33.mono ?_
  rintro e w1 ⟨rfl, hb1⟩
  go_wp2
  go_ret
  exact ⟨by rw [HR.out]; rfl, below_tr hb hb1⟩
 ·obtain ⟨b, o, rfl, d0, d1⟩ := h4 k hk
  have HF : Hid (faultR ms a need = if bits .and .i64 ms[k].2 need = 0 then 2 else 0) := by show _ = _; rw [faultR, <- hpg, p2]
  rw [p1] at K33
  generalize ms[k].2 = r at d1 HF
  clear h4 hm p1 p2 hpg h3 d0
  by_cases hz : bits .and .i64 r need = 0
  ·have HR : Hid (faultR ms a need = 2) := by show _ = _; rw [HF.out, if_pos hz]
   have hz' : (bits .and .i64 r need == 0) = true := by simpa using hz
   clear hz HF
   go_enter Tryz.func92, Tryz.ntmps92
   go_wp2_with fail
   refine K33.mono ?_
   rintro e w1 ⟨rfl, hb1⟩
   have c0 := keep_cell hb1 c0
   have d1 := keep_cell hb1 d1
   go_wp2
   go_ret
   exact ⟨by rw [HR.out]; rfl, below_tr hb hb1⟩
  ·have HR : Hid (faultR ms a need = 0) := by show _ = _; rw [HF.out, if_neg hz]
   have hz' : (bits .and .i64 r need == 0) = false := by simpa using hz
   clear hz HF
   go_enter Tryz.func92, Tryz.ntmps92
   go_wp2_with fail
   refine K33.mono ?_
   rintro e w1 ⟨rfl, hb1⟩
   have c0 := keep_cell hb1 c0
   have d1 := keep_cell hb1 d1
   go_wp2
   go_ret
   exact ⟨by rw [HR.out]; rfl, below_tr hb hb1⟩
set_option maxHeartbeats 2000000 in
theorem ask48 (vm vc : Value) (ms : List (Nat × Int)) (at_ n : Nat) (need : Int) (w : World) (hm : Sl .i64 w vm ms) (hc : ∃ a n p, vc = .slice a n p) (ha : at_ < 18446744073709551616) (hn : n <= 8) :
  Calls Tryz.prog 68 #[.agg #[vm, vc], .int .u64 at_, .int .i64 n, .int .i64 need] w
   fun e w' => e = .returned (.agg #[.int .i64 (faultFrom ms at_ need 0 n).1, .int .u64 ((faultFrom ms at_ need 0 n).2 : Int)]) /\ Below w.heap.size w w' := by
 obtain ⟨W, hW, hb, hsz, c0, c1, _, _, g0, g1⟩ := box2b w vm vc (.int .i64 0) (.int .u64 0) 29 38
 have K : Hid (∀ w' (a : Nat), a < 18446744073709551616 -> Below W.heap.size W w' -> Calls Tryz.prog 92 #[.agg #[vm, vc], .int .u64 a, .int .i64 need] w' fun e w'' => e = .returned (.int .i64 (faultR ms a need)) /\ Below w'.heap.size w' w'') := fun w' a h hb' => fault61 vm vc ms a need w' (hm.keep (below_tr hb hb')) hc h
 obtain ⟨x, nm, p, rfl⟩ : ∃ a n p, vm = .slice a n p := by obtain ⟨a, p, h, _⟩ := hm; exact ⟨_, _, _, h⟩
 obtain ⟨x', n', p', rfl⟩ := hc
 obtain ⟨F, hF⟩ : ∃ F, F = faultFrom ms at_ need 0 n := ⟨_, rfl⟩
 rw [<- hF]
 have HA : Hid (at_ < 18446744073709551616) := ha
 have H0 : Hid (F = faultFrom ms at_ need 0 n) := hF
 clear hm hF ha
 go_enter Tryz.func68, Tryz.ntmps68
 go_wp2
 go_loopw [9] (fun i wr => ∃ k : Nat, k <= n /\ i = .int .i64 k /\ F = faultFrom ms at_ need k (n - k) /\ Below W.heap.size W wr) (fun i _ => n - (intOf i).toNat)
 case atStart => exact ⟨0, Nat.zero_le _, rfl, H0.out, Below.refl _ _⟩
 case round =>
  obtain ⟨k, hk, rfl, hfk, hbr⟩ := hrel
  have HFK : Hid (F = faultFrom ms at_ need k (n - k)) := hfk
  clear hfk
  have e0 := keep_cell hbr c0
  have e1 := keep_cell hbr c1
  have f0 := g0.keep hbr
  have f1 := g1.keep hbr
  have hbw := below_tr hb hbr
  by_cases hkn : k < n
  ·obtain ⟨a, haa⟩ : ∃ a, a = (at_ + k) % 18446744073709551616 := ⟨_, rfl⟩
   have xk : IntKind.u64.wrap (k : Int) = (k : Int) := by rw [IntKind.wrap_u64]; omega
   have hA : IntKind.u64.wrap ((at_ : Int) + (k : Int)) = (a : Int) := by rw [IntKind.wrap_u64]; omega
   have HLT : Hid (a < at_ ↔ 18446744073709551616 <= at_ + k) := by have := HA.out; show _ ↔ _; omega
   have hal : a < 18446744073709551616 := by omega
   have HSTEP : Hid (F = if faultK ms at_ k need = 0 then faultFrom ms at_ need (k + 1) (n - (k + 1)) else (faultK ms at_ k need, a)) := by
    have h := HFK.out
    rw [show n - k = (n - (k + 1)) + 1 by omega, faultFrom, <- haa] at h
    exact h
   have HKR : Hid (faultK ms at_ k need = if 18446744073709551616 <= at_ + k then 1 else faultR ms a need) := by show _ = _; rw [haa]; exact faultK_R ms at_ k need
   have KW := K.out wr a hal hbr
   obtain ⟨fr, hfr⟩ : ∃ x, x = faultR ms a need := ⟨_, rfl⟩
   rw [<- hfr] at KW HKR
   clear haa hal hfr
   by_cases hov : a < at_
   ·have HF : Hid (F = (1, a)) := by
     have h := HSTEP.out
     rw [HKR.out, if_pos (HLT.out.1 hov)] at h
     show F = (1, a)
     simpa using h
    go_wp2_with fail
    refine KW.mono ?_
    rintro e wq ⟨rfl, hb1⟩
    have G0 : Free wq ⟨w.heap.size + 1, 0, none⟩ := freeA
    have G1 : Free wq ⟨w.heap.size + 1, 1, none⟩ := freeA
    have q0 := G0.cell
    have q1 := G1.cell
    have q2 := G0.frozen
    have q3 := G1.frozen
    go_wp2
    (try simp only [Exit.inBlock, Exit.then])
    obtain ⟨r0, r1⟩ := res2 wq (w.heap.size + 1) (.int .i64 1) (.int .u64 a) G0 G1
    refine bodyPost_ret (v := .agg #[.int .i64 1, .int .u64 a]) ?_ rfl ⟨by rw [HF.out]; first | rfl | done, belA⟩
    rw [results_cell1 rfl]; simp [go_sem, r0, r1]
   ·by_cases hz : fr = 0
    ·have HF : Hid (F = faultFrom ms at_ need (k + 1) (n - (k + 1))) := by
      have h := HSTEP.out
      rw [HKR.out, if_neg (fun h => hov (HLT.out.2 h)), if_pos hz] at h
      exact h
     subst hz
     go_wp2_with fail
     refine KW.mono ?_
     rintro e wq ⟨rfl, hb1⟩
     have hbx := below_tr hbr hb1
     go_wp2
     go_roundw
     case rel => exact ⟨k + 1, by omega, by go_num, HF.out, hbx⟩
     case measure => simp [intOf]; omega
    ·have HF : Hid (F = (fr, a)) := by
      have h := HSTEP.out
      rw [HKR.out, if_neg (fun h => hov (HLT.out.2 h)), if_neg hz] at h
      exact h
     have hz' : (fr != 0) = true := by simpa using hz
     clear hz
     go_wp2_with fail
     refine KW.mono ?_
     rintro e wq ⟨rfl, hb1⟩
     have G0 : Free wq ⟨w.heap.size + 1, 0, none⟩ := freeA
     have G1 : Free wq ⟨w.heap.size + 1, 1, none⟩ := freeA
     have q0 := G0.cell
     have q1 := G1.cell
     have q2 := G0.frozen
     have q3 := G1.frozen
     go_wp2
     (try simp only [Exit.inBlock, Exit.then])
     obtain ⟨r0, r1⟩ := res2 wq (w.heap.size + 1) (.int .i64 fr) (.int .u64 a) G0 G1
     refine bodyPost_ret (v := .agg #[.int .i64 fr, .int .u64 a]) ?_ rfl ⟨by rw [HF.out]; first | rfl | done, belA⟩
     rw [results_cell1 rfl]; simp [go_sem, r0, r1]
  ·have HF : Hid (F = (0, 0)) := by
    have h := HFK.out
    rw [show n - k = 0 by omega] at h
    exact h
   have G0 : Free wr ⟨w.heap.size + 1, 0, none⟩ := f0
   have G1 : Free wr ⟨w.heap.size + 1, 1, none⟩ := freeA
   have q0 := G0.cell
   have q1 := G1.cell
   have q2 := G0.frozen
   have q3 := G1.frozen
   go_wp2
   (try simp only [Exit.inBlock, Exit.then])
   obtain ⟨r0, r1⟩ := res2 wr (w.heap.size + 1) (.int .i64 0) (.int .u64 0) G0 G1
   refine bodyPost_ret (v := .agg #[.int .i64 0, .int .u64 0]) ?_ rfl ⟨by rw [HF.out]; first | rfl | done, belA⟩
   rw [results_cell1 rfl]; simp [go_sem, r0, r1]
set_option maxHeartbeats 4000000 in
set_option maxRecDepth 100000 in
theorem poke52 (vm vc : Value) (ms cs : List (Nat × Int)) (a bt : Nat) (w : World) (hm : Sl .i64 w vm ms) (hc : Sl .u64 w vc cs) (sc : Srt cs) (lc : cs.length <= 536870912) (hw : Words cs) (ha : a < 18446744073709551616) (hbt : bt < 256) :
  Calls Tryz.prog 69 #[.agg #[vm, vc], .int .u64 a, .int .u8 bt] w fun e w' => ∃ vc', e = .returned (.agg #[vm, vc']) /\ w'.ownsRow w.heap.size 48 2 vc' (pokeL cs (cellOf a) (pokeW cs a bt)).length (rowOf .u64 (pokeL cs (cellOf a) (pokeW cs a bt))) /\ Below w.heap.size w w' := by
 obtain ⟨W, hW, hb, hsz, c0, c1, _, h1, g0, g1⟩ := box2b w vm vc (.slice none 0 0) (.slice none 0 0) 29 29
 have hWsz : W.heap.size = w.heap.size + 2 := by omega
 obtain ⟨b, hbb⟩ : ∃ b, b = cellOf a := ⟨_, rfl⟩
 obtain ⟨r, hr⟩ : ∃ r, r = a % 8 := ⟨_, rfl⟩
 have hr8 : r < 8 := by omega
 have K54 : Hid (Calls Tryz.prog 23 #[.agg #[vm, vc], .int .u64 b] W fun e w'' => e = .returned (.int .u64 ((wordN cs b : Nat) : Int)) /\ Below W.heap.size W w'') := by
  have h := word54 vc vm cs b W (hc.keep hb) (by obtain ⟨a, p, h, _⟩ := hm; exact ⟨_, _, _, h⟩)
  rw [wordOf_eq cs hw] at h
  exact h
 have hwl := wordN_lt cs hw b
 have hpw := pow_le r hr8
 have hpw0 : 0 < 2 ^ (8 * r) := Nat.pow_pos (by omega)
 obtain ⟨wd, hwd⟩ : ∃ x, x = pokeW cs a bt := ⟨_, rfl⟩
 rw [<- hbb, <- hwd]
 obtain ⟨zs, hzs⟩ : ∃ z, z = pokeL cs b wd := ⟨_, rfl⟩
 rw [<- hzs]
 have HEND : Hid ((metB b wd cs = true -> outL b wd cs = zs) /\ (metB b wd cs = false -> outL b wd cs ++ [(b, (wd : Int))] = zs)) := by rw [hzs]; exact out_end cs b wd
 have hwd' : wd = clr (wordN cs b) (255 * 2 ^ (8 * r)) ||| bt * 2 ^ (8 * r) := by rw [hwd, pokeW, hbb, hr]
 obtain ⟨am, nm, pm, rfl⟩ : ∃ a n p, vm = .slice a n p := by obtain ⟨a, p, h, _⟩ := hm; exact ⟨_, _, _, h⟩
 obtain ⟨ac, pc, rfl, z1, z2, z4⟩ : ∃ ao cap, vc = .slice ao cs.length cap /\ cs.length <= cap /\ cap <= 9223372036854775807 /\ ∀ i (h : i < cs.length), ∃ b o, ao = some ⟨b, o, none⟩ /\ W.cell? ⟨b, o + i * 2, none⟩ = some (.int .u64 (cs[i].1 : Int)) /\ W.cell? ⟨b, o + i * 2 + 1, none⟩ = some (.int .u64 cs[i].2) := by
  obtain ⟨ao, cap, e, q1, q2, _, q4⟩ := hc.keep hb
  exact ⟨ao, cap, e, q1, q2, q4⟩
 have HX : Hid (∀ i (h : i < cs.length), ∃ b o, ac = some ⟨b, o, none⟩ /\ W.cell? ⟨b, o + i * 2, none⟩ = some (.int .u64 (cs[i].1 : Int)) /\ W.cell? ⟨b, o + i * 2 + 1, none⟩ = some (.int .u64 cs[i].2)) := z4
 have HS : Hid (∀ m (h : m < cs.length), ∀ y ∈ cs.take m, y.1 < (cs[m]).1) := fun m hm y hy => by
  rw [Srt, List.pairwise_iff_getElem] at sc
  obtain ⟨j, hj, rfl⟩ := List.getElem_of_mem hy
  simp at hj |-
  exact sc j m (by omega) hm (by omega)
 obtain ⟨i0, hi, hz0, hz1, hz2⟩ := info_parts info58
 have HI : Hid (Tryz.prog.info? 48 = some i0 /\ i0.zero = some (.agg #[.int .u64 0, .int .u64 0]) /\ i0.size = 2 /\ i0.bytes = 16) := ⟨hi, hz0, hz1, hz2⟩
 clear hi hz0 hz1 hz2
 generalize wordN cs b = ow at K54 hwl hwd'
 have x1 : ((a : Int)).tmod 8 = (r : Int) := by rw [Int.tmod_eq_emod_of_nonneg (by omega)]; omega
 have x2 : IntKind.u64.wrap ((a : Int) - (r : Int)) = (b : Int) := by rw [IntKind.wrap_u64, hbb]; unfold cellOf; omega
 have x3 : IntKind.u64.wrap (8 * (r : Int)) = ((8 * r : Nat) : Int) := by rw [IntKind.wrap_u64]; omega
 obtain ⟨s8, hs8⟩ : ∃ s, s = 8 * r := ⟨_, rfl⟩
 rw [<- hs8] at x3 hpw hpw0 hwd'
 obtain ⟨P, hP⟩ : ∃ P, P = 2 ^ s8 := ⟨_, rfl⟩
 rw [<- hP] at hpw hpw0 hwd'
 have x4 : IntKind.u64.wrap (255 * 2 ^ min s8 64) = ((255 * P : Nat) : Int) := by
  have h := shl64 255 s8 (by omega)
  rw [<- hP, Nat.mod_eq_of_lt (by omega)] at h
  exact h
 have x5 : IntKind.u64.wrap ((bt : Int) * 2 ^ min s8 64) = ((bt * P : Nat) : Int) := by
  have hle : bt * P <= 255 * P := Nat.mul_le_mul_right _ (by omega)
  have h := shl64 bt s8 (by omega)
  rw [<- hP, Nat.mod_eq_of_lt (by omega)] at h
  exact h
 have hle : bt * P <= 255 * P := Nat.mul_le_mul_right _ (by omega)
 obtain ⟨A1, hA1⟩ : ∃ x, x = 255 * P := ⟨_, rfl⟩
 obtain ⟨A2, hA2⟩ : ∃ x, x = bt * P := ⟨_, rfl⟩
 rw [<- hA1] at x4 hwd' hle
 rw [<- hA2] at x5 hwd' hle
 have x6 : bits .andNot .u64 (ow : Int) (A1 : Int) = ((clr ow A1 : Nat) : Int) := andNot64 ow A1 hwl (by omega)
 have hcl : clr ow A1 < 18446744073709551616 := Nat.lt_of_le_of_lt Nat.and_le_left hwl
 generalize clr ow A1 = C1 at x6 hwd' hcl
 have x7 : bits .or .u64 (C1 : Int) (A2 : Int) = (wd : Int) := by rw [or64 C1 A2 hcl (by omega), hwd']
 have x8 : IntKind.u64.wrap (bt : Int) = (bt : Int) := by rw [IntKind.wrap_u64]; omega
 have HWD : Hid (((wd : Int) == 0) = decide (wd = 0)) := by show _ = _; rw [Bool.eq_iff_iff]; simp
 have hwd0 := HWD.out
 have HME : Hid (metB b wd (cs.take 0) = decide (wd = 0)) := by simp [Hid, metB]
 clear hm hc sc hw z4 hbb hr hr8 hwl hpw hpw0 hwd hwd' hzs hs8 hP hle hA1 hA2 hcl ha hbt
 go_enter Tryz.func69, Tryz.ntmps69
 go_wp2_with fail
 refine K54.out.mono ?_
 rintro e w1 ⟨rfl, hb1⟩
 clear K54
 have c0' := keep_cell hb1 c0
 have c1' := keep_cell hb1 c1
 go_wp2
 go_loopw [10, 11, 12] (fun s d i wr => ∃ m : Nat, m <= cs.length /\ i = .int .i64 m /\ d = .bool (metB b wd (cs.take m)) /\ wr.ownsRow W.heap.size 48 2 s (outL b wd (cs.take m)).length (rowOf .u64 (outL b wd (cs.take m))) /\ (outL b wd (cs.take m)).length <= m + 1 /\ Below W.heap.size W wr) (fun _ _ i _ => cs.length - (intOf i).toNat)
 case atStart => exact ⟨0, Nat.zero_le _, rfl, by rw [HME.out], by rw [List.take_zero, out_nil]; exact World.ownsRow_nil w1 W.heap.size 48 2, by rw [List.take_zero, out_nil]; simp, hb1⟩
 case round =>
  clear hb1 c0' c1'
  obtain ⟨m, hmle, rfl, rfl, how, hlm, hbr⟩ := hrel
  have e0 := keep_cell hbr c0
  have e1 := keep_cell hbr c1
  have hWr := hbr.size
  by_cases hml : m < cs.length
  ·obtain ⟨bb, o, rfl, D0, D1⟩ := HX.out m hml
   have hs := HS.out m hml
   have ht : cs.take (m + 1) = cs.take m ++ [cs[m]] := by rw [List.take_add_one, List.getElem?_eq_getElem hml]; rfl
   obtain ⟨p, hp⟩ : ∃ p, p = cs[m].1 := ⟨_, rfl⟩
   obtain ⟨rr, hrr⟩ : ∃ r, r = cs[m].2 := ⟨_, rfl⟩
   have hx : cs[m] = (p, rr) := by rw [hp, hrr]
   rw [hx] at ht hs
   rw [<- hp] at D0
   rw [<- hrr] at D1
   have d0 := keep_cell hbr D0
   have d1 := keep_cell hbr D1
   clear hp hrr hx
   by_cases k1 : p < b
   ·obtain ⟨o1, o2⟩ := out_lt (b := b) (wd := wd) (x := (p, rr)) hs k1
    rw [<- ht] at o1 o2
    have HOUT : Hid (outL b wd (cs.take (m + 1)) = outL b wd (cs.take m) ++ [(p, rr)] /\ metB b wd (cs.take (m + 1)) = metB b wd (cs.take m)) := ⟨o1, o2⟩
    have n1 : ¬ (b : Int) <= (p : Int) := by omega
    have n2 : ((p : Int) != (b : Int)) = true := by simp; omega
    clear o1 o2 ht hs k1
    generalize outL b wd (cs.take m) = xs at how HOUT hlm
    generalize metB b wd (cs.take m) = mt at HOUT |-
    cases mt with
    | false =>
     go_wp2_with (at_builtin; refine wpList_append_own _ rfl (.tmp 66) (.tmp 72) 27 rfl W.heap.size 48 i0 _ 2 16 Tryz.underlying27 HI.out.1 HI.out.2.1 HI.out.2.2.1 HI.out.2.2.2 rfl (by decide) _ _ _ rfl (own_alloc how _) ⟨wr.heap.size, 0, none⟩ 1 1 [.int .u64 p, .int .u64 rr] rfl rfl (cells2 _ _ _ _) (one2 _ _ _) (by unfold maxLen; omega) (by omega) (by simp; omega) ?_; intro sv w2 how2 hgr2 _; obtain ⟨sa2, sn2, sp2, rfl⟩ := own_shape how2; have R2 := app_own how2; have B2 : Below W.heap.size W w2 := app_below _ hbr hWr hgr2 (own_ge how); have S2 := B2.size; have y20 := keep_cell B2 c0; have y21 := keep_cell B2 c1)
     go_roundw
     case rel => exact ⟨m + 1, by omega, by go_num, by rw [HOUT.out.2], by rw [HOUT.out.1]; exact R2, by rw [HOUT.out.1]; simp; omega, B2⟩
     case measure => simp [intOf]; omega
    | true =>
     go_wp2_with (at_builtin; refine wpList_append_own _ rfl (.tmp 66) (.tmp 72) 27 rfl W.heap.size 48 i0 _ 2 16 Tryz.underlying27 HI.out.1 HI.out.2.1 HI.out.2.2.1 HI.out.2.2.2 rfl (by decide) _ _ _ rfl (own_alloc how _) ⟨wr.heap.size, 0, none⟩ 1 1 [.int .u64 p, .int .u64 rr] rfl rfl (cells2 _ _ _ _) (one2 _ _ _) (by unfold maxLen; omega) (by omega) (by simp; omega) ?_; intro sv w2 how2 hgr2 _; obtain ⟨sa2, sn2, sp2, rfl⟩ := own_shape how2; have R2 := app_own how2; have B2 : Below W.heap.size W w2 := app_below _ hbr hWr hgr2 (own_ge how); have S2 := B2.size; have y20 := keep_cell B2 c0; have y21 := keep_cell B2 c1)
     go_roundw
     case rel => exact ⟨m + 1, by omega, by go_num, by rw [HOUT.out.2], by rw [HOUT.out.1]; exact R2, by rw [HOUT.out.1]; simp; omega, B2⟩
     case measure => simp [intOf]; omega
   ·by_cases k2 : p = b
    ·subst k2
     obtain ⟨o1, o2, o3⟩ := out_eq (b := p) (wd := wd) (x := (p, rr)) hs rfl
     rw [<- ht] at o1 o2
     rw [o3]
     have n2 : ((p : Int) != (p : Int)) = false := by simp
     by_cases w0 : wd = 0
     ·have HOUT : Hid (outL p wd (cs.take (m + 1)) = outL p wd (cs.take m) /\ metB p wd (cs.take (m + 1)) = true) := ⟨by rw [o1, w0, cellIf_zero, List.append_nil], o2⟩
      rw [decide_eq_true w0]
      clear o1 o2 o3 ht hs k1
      generalize outL p wd (cs.take m) = xs at how HOUT hlm
      go_wp2
      go_roundw
      case rel => exact ⟨m + 1, by omega, by go_num, by rw [HOUT.out.2], by rw [HOUT.out.1]; exact how, by rw [HOUT.out.1]; omega, hbr⟩
      case measure => simp [intOf]; omega
     ·have HOUT : Hid (outL p wd (cs.take (m + 1)) = outL p wd (cs.take m) ++ [(p, (wd : Int))] /\ metB p wd (cs.take (m + 1)) = true) := ⟨by rw [o1, cellIf, if_neg w0], o2⟩
      rw [decide_eq_false w0]
      clear o1 o2 o3 ht hs k1
      generalize outL p wd (cs.take m) = xs at how HOUT hlm
      go_wp2_with (at_builtin; refine wpList_append_own _ rfl (.tmp 52) (.tmp 56) 27 rfl W.heap.size 48 i0 _ 2 16 Tryz.underlying27 HI.out.1 HI.out.2.1 HI.out.2.2.1 HI.out.2.2.2 rfl (by decide) _ _ _ rfl (own_alloc how _) ⟨wr.heap.size, 0, none⟩ 1 1 [.int .u64 p, .int .u64 wd] rfl rfl (cells2 _ _ _ _) (one2 _ _ _) (by unfold maxLen; omega) (by omega) (by simp; omega) ?_; intro sv w2 how2 hgr2 _; obtain ⟨sa2, sn2, sp2, rfl⟩ := own_shape how2; have R2 := app_own how2; have B2 : Below W.heap.size W w2 := app_below _ hbr hWr hgr2 (own_ge how); have S2 := B2.size; have y20 := keep_cell B2 c0; have y21 := keep_cell B2 c1; have d20 := keep_cell B2 D0; have d21 := keep_cell B2 D1)
      go_roundw
      case rel => exact ⟨m + 1, by omega, by go_num, by rw [HOUT.out.2], by rw [HOUT.out.1]; exact R2, by rw [HOUT.out.1]; simp; omega, B2⟩
      case measure => simp [intOf]; omega
    ·obtain ⟨o1, o2⟩ := out_gt (b := b) (wd := wd) (x := (p, rr)) (show b < p by omega) (met_or (cs.take m))
     rw [<- ht] at o1 o2
     have n1 : (b : Int) <= (p : Int) := by omega
     have n2 : ((p : Int) != (b : Int)) = true := by simp; omega
     cases hmt : metB b wd (cs.take m) with
     | true =>
      rw [hmt, if_pos rfl, List.append_nil] at o1
      have HOUT : Hid (outL b wd (cs.take (m + 1)) = outL b wd (cs.take m) ++ [(p, rr)] /\ metB b wd (cs.take (m + 1)) = true) := ⟨o1, o2⟩
      clear o1 o2 ht hs k1 k2 hmt
      generalize outL b wd (cs.take m) = xs at how HOUT hlm
      go_wp2_with (at_builtin; refine wpList_append_own _ rfl (.tmp 66) (.tmp 72) 27 rfl W.heap.size 48 i0 _ 2 16 Tryz.underlying27 HI.out.1 HI.out.2.1 HI.out.2.2.1 HI.out.2.2.2 rfl (by decide) _ _ _ rfl (own_alloc how _) ⟨wr.heap.size, 0, none⟩ 1 1 [.int .u64 p, .int .u64 rr] rfl rfl (cells2 _ _ _ _) (one2 _ _ _) (by unfold maxLen; omega) (by omega) (by simp; omega) ?_; intro sv w2 how2 hgr2 _; obtain ⟨sa2, sn2, sp2, rfl⟩ := own_shape how2; have R2 := app_own how2; have B2 : Below W.heap.size W w2 := app_below _ hbr hWr hgr2 (own_ge how); have S2 := B2.size; have y20 := keep_cell B2 c0; have y21 := keep_cell B2 c1)
      go_roundw
      case rel => exact ⟨m + 1, by omega, by go_num, by rw [HOUT.out.2], by rw [HOUT.out.1]; exact R2, by rw [HOUT.out.1]; simp; omega, B2⟩
      case measure => simp [intOf]; omega
     | false =>
      have hw0 : wd ≠ 0 := by
       intro e; rw [e, metB] at hmt; simp at hmt
      rw [hmt, if_neg (by simp), cellIf, if_neg hw0] at o1
      have HLEN : Hid ((outL b wd (cs.take m)).length <= m) := by
       show _ <= _
       rcases met_or (b := b) (wd := wd) (cs.take m) with q | q
       ·rw [hmt] at q; cases q
       ·rw [outL, hmt, hi_nil (fun y hy => by have := q y hy; omega)]
        have := lo_len (cs.take m) b
        have h2 : (cs.take m).length <= m := by simp; omega
        simp; omega
      have hlm := HLEN.out
      have HOUT : Hid (outL b wd (cs.take (m + 1)) = outL b wd (cs.take m) ++ [(b, (wd : Int))] ++ [(p, rr)] /\ metB b wd (cs.take (m + 1)) = true) := ⟨o1, o2⟩
      clear o1 o2 ht hs k1 k2 hmt HLEN hw0
      generalize outL b wd (cs.take m) = xs at how HOUT hlm
      go_wp2_with (first | (at_builtin; refine wpList_append_own _ rfl (.tmp 52) (.tmp 56) 27 rfl W.heap.size 48 i0 _ 2 16 Tryz.underlying27 HI.out.1 HI.out.2.1 HI.out.2.2.1 HI.out.2.2.2 rfl (by decide) _ _ _ rfl (own_alloc how _) ⟨wr.heap.size, 0, none⟩ 1 1 [.int .u64 b, .int .u64 wd] rfl rfl (cells2 _ _ _ _) (one2 _ _ _) (by unfold maxLen; omega) (by omega) (by simp; omega) ?_; intro sv w2 how2 hgr2 _; obtain ⟨sa2, sn2, sp2, rfl⟩ := own_shape how2; have R2 := app_own how2; have B2 : Below W.heap.size W w2 := app_below _ hbr hWr hgr2 (own_ge how); have S2 := B2.size; have y20 := keep_cell B2 c0; have y21 := keep_cell B2 c1; have d20 := keep_cell B2 D0; have d21 := keep_cell B2 D1; have hl2 : (xs ++ [(b, (wd : Int))]).length <= m + 1 := (by simp; omega)) | (at_builtin; refine wpList_append_own _ rfl (.tmp 66) (.tmp 72) 27 rfl W.heap.size 48 i0 _ 2 16 Tryz.underlying27 HI.out.1 HI.out.2.1 HI.out.2.2.1 HI.out.2.2.2 rfl (by decide) _ _ _ rfl (own_alloc R2 _) ⟨w2.heap.size, 0, none⟩ 1 1 [.int .u64 p, .int .u64 rr] rfl rfl (cells2 _ _ _ _) (one2 _ _ _) (by unfold maxLen; omega) (by omega) (by simp; omega) ?_; intro sv w3 how3 hgr3 _; obtain ⟨sa3, sn3, sp3, rfl⟩ := own_shape how3; have R3 := app_own how3; have B3 : Below W.heap.size W w3 := app_below _ B2 S2 hgr3 (own_ge R2); have S3 := B3.size; have y30 := keep_cell B3 c0; have y31 := keep_cell B3 c1))
      go_roundw
      case rel => exact ⟨m + 1, by omega, by go_num, by rw [HOUT.out.2], by rw [HOUT.out.1]; exact R3, by rw [HOUT.out.1]; simp; omega, B3⟩
      case measure => simp [intOf]; omega
  ·obtain rfl : m = cs.length := by omega
   rw [List.take_length] at how hlm |-
   cases hmt : metB b wd cs with
   | true =>
    rw [HEND.out.1 hmt] at how
    clear hmt hlm
    obtain ⟨sa2, sn2, sp2, rfl⟩ := own_shape how
    have f0 := g0.keep hbr
    have f1 := g1.keep hbr
    have fh := h1.keep hbr
    have q0 := f0.cell
    have q1 := f1.cell
    have q2 := f0.frozen
    have q3 := f1.frozen
    have q4 := fh.frozen
    have y0 := keep_cell hbr c0
    have y1 := keep_cell hbr c1
    have hbw := below_tr hb hbr
    obtain ⟨WA, hWA⟩ : ∃ WA, wr.setCell ⟨w.heap.size, 1, none⟩ (.slice sa2 sn2 sp2) = WA := ⟨_, rfl⟩
    have F0 : Free WA ⟨w.heap.size + 1, 0, none⟩ := by rw [<- hWA]; exact f0.set _ _
    have F1 : Free WA ⟨w.heap.size + 1, 1, none⟩ := by rw [<- hWA]; exact f1.set _ _
    have u0 : WA.cell? ⟨w.heap.size, 0, none⟩ = some (.slice am nm pm) := by rw [<- hWA, World.cell?_setCell_other _ _ _ _ (by simp)]; exact y0
    have u1 : WA.cell? ⟨w.heap.size, 1, none⟩ = some (.slice sa2 sn2 sp2) := by rw [<- hWA]; exact World.cell?_setCell_same _ _ _ fh.cell
    have i0' := F0.cell
    have i1' := F1.cell
    have i2' := F0.frozen
    have i3' := F1.frozen
    have SM : Hid (World.ownsRow ((WA.setCell ⟨w.heap.size + 1, 0, none⟩ (.slice am nm pm)).setCell ⟨w.heap.size + 1, 1, none⟩ (.slice sa2 sn2 sp2)) w.heap.size 48 2 (.slice sa2 sn2 sp2) zs.length (rowOf .u64 zs)) := by
     rw [<- hWA]
     exact res2_own (ownsRow_setCell_below how (by simp; omega) _) (by omega) (by omega)
    have SB : Hid (Below w.heap.size w ((WA.setCell ⟨w.heap.size + 1, 0, none⟩ (.slice am nm pm)).setCell ⟨w.heap.size + 1, 1, none⟩ (.slice sa2 sn2 sp2))) := by
     rw [<- hWA]
     exact below_set (below_set (below_set hbw (by simp) _) (by simp) _) (by simp) _
    clear how
    go_wp2
    (try simp only [Exit.inBlock, Exit.then])
    obtain ⟨r0, r1⟩ := res2 WA (w.heap.size + 1) (.slice am nm pm) (.slice sa2 sn2 sp2) F0 F1
    refine bodyPost_ret (v := .agg #[.slice am nm pm, .slice sa2 sn2 sp2]) ?_ rfl ⟨_, rfl, SM.out, SB.out⟩
    rw [results_cell1 rfl]; simp [go_sem, r0, r1]
   | false =>
    have HP : Hid (outL b wd cs ++ [(b, (wd : Int))] = zs) := HEND.out.2 hmt
    clear hmt
    generalize outL b wd cs = xs at how HP hlm
    have hq1 := h1
    go_wp2_with (at_builtin; refine wpList_append_own _ rfl (.tmp 76) (.tmp 80) 27 rfl W.heap.size 48 i0 _ 2 16 Tryz.underlying27 HI.out.1 HI.out.2.1 HI.out.2.2.1 HI.out.2.2.2 rfl (by decide) _ _ _ rfl (own_alloc how _) ⟨wr.heap.size, 0, none⟩ 1 1 [.int .u64 b, .int .u64 wd] rfl rfl (cells2 _ _ _ _) (one2 _ _ _) (by unfold maxLen; omega) (by omega) (by simp; omega) ?_; intro sv w2 how2 hgr2 _; obtain ⟨sa2, sn2, sp2, rfl⟩ := own_shape how2; have R2 := app_own how2; have B2 : Below W.heap.size W w2 := app_below _ hbr hWr hgr2 (own_ge how); have S2 := B2.size; have R2z := R2; rw [HP.out] at R2z; have f0 := g0.keep B2; have f1 := g1.keep B2; have fh := h1.keep B2; have q0 := f0.cell; have q1 := f1.cell; have q2 := f0.frozen; have q3 := f1.frozen; have q4 := fh.frozen; have y0 := keep_cell B2 c0; have y1 := keep_cell B2 c1; have hbw := below_tr hb B2; obtain ⟨WA, hWA⟩ : ∃ WA, w2.setCell ⟨w.heap.size, 1, none⟩ (.slice sa2 sn2 sp2) = WA := ⟨_, rfl⟩; have F0 : Free WA ⟨w.heap.size + 1, 0, none⟩ := (by rw [<- hWA]; exact f0.set _ _); have F1 : Free WA ⟨w.heap.size + 1, 1, none⟩ := (by rw [<- hWA]; exact f1.set _ _); have u0 : WA.cell? ⟨w.heap.size, 0, none⟩ = some (.slice am nm pm) := (by rw [<- hWA, World.cell?_setCell_other _ _ _ _ (by simp)]; exact y0); have u1 : WA.cell? ⟨w.heap.size, 1, none⟩ = some (.slice sa2 sn2 sp2) := (by rw [<- hWA]; exact World.cell?_setCell_same _ _ _ fh.cell); have i0' := F0.cell; have i1' := F1.cell; have i2' := F0.frozen; have i3' := F1.frozen; have SM : Hid (World.ownsRow ((WA.setCell ⟨w.heap.size + 1, 0, none⟩ (.slice am nm pm)).setCell ⟨w.heap.size + 1, 1, none⟩ (.slice sa2 sn2 sp2)) w.heap.size 48 2 (.slice sa2 sn2 sp2) zs.length (rowOf .u64 zs)) := (by rw [<- hWA]; exact res2_own (ownsRow_setCell_below R2z (by simp; omega) _) (by omega) (by omega)); have SB : Hid (Below w.heap.size w ((WA.setCell ⟨w.heap.size + 1, 0, none⟩ (.slice am nm pm)).setCell ⟨w.heap.size + 1, 1, none⟩ (.slice sa2 sn2 sp2))) := (by rw [<- hWA]; exact below_set (below_set (below_set hbw (by simp) _) (by simp) _) (by simp) _); clear R2z)
    (try simp only [Exit.inBlock, Exit.then])
    obtain ⟨r0, r1⟩ := res2 WA (w.heap.size + 1) (.slice am nm pm) (.slice sa2 sn2 sp2) F0 F1
    refine bodyPost_ret (v := .agg #[.slice am nm pm, .slice sa2 sn2 sp2]) ?_ rfl ⟨_, rfl, SM.out, SB.out⟩
    rw [results_cell1 rfl]; simp [go_sem, r0, r1]
end Go.Proofs.YtimfipkbddpdmaaGreatDoor.Gm
