import Derived.Test.YtimfipkbddpdmaaGreatDoorMPlain
import Derived.Test.YtimfipkbddpdmaaGreatDoorMHeld
import Derived.Laws.StructEq
import Derived.Test.YtimfipkbddpdmaaGreatDoorMCopied
import Derived.Test.YtimfipkbddpdmaaGreatDoorMSpan
import Derived.Test.YtimfipkbddpdmaaGreatDoorMGw
import Derived.RangeFuncNested
import Derived.RangeFuncBound
import Derived.RangeFuncCalls
import Derived.RangeFuncLeaves
import Derived.Shelf.Abstract
import Derived.Shelf.RegionOpen
import Derived.WalkKit
import Derived.OwnWalkIn
import Derived.TacticsInMore
import Derived.LoopNIn
import Derived.LoopIn
import Derived.RangeFuncBox
import Derived.OrdersHeld
import Derived.Deep.RegionHeld3
set_option linter.unusedVariables false
set_option linter.unusedSimpArgs false
set_option maxRecDepth 100000
open Go Go.RowKit
namespace Go.Proofs.YtimfipkbddpdmaaGreatDoor.Gm
set_option maxHeartbeats 4000000 in
theorem rsame12 (vm vc vm' vc' : Value) (ms cs ms' cs' : List (Nat × Int)) (w : World) (hm : Sl .i64 w vm ms) (hc : Sl .u64 w vc cs) (hm' : Sl .i64 w vm' ms') (hc' : Sl .u64 w vc' cs') :
  Calls Tryz.prog 22 #[.agg #[vm, vc], .agg #[vm', vc']] w fun e w' => e = .returned (.bool (decide (ms = ms' /\ cs = cs'))) /\ Below w.heap.size w w' := by
 obtain ⟨X, hX, hx, hxs, c0, c1, _, _⟩ := box2 w vm vc 29
 obtain ⟨W, hW, hb, hsz, c2, c3, _, _⟩ := box2 X vm' vc' 29
 rw [hxs] at c2 c3
 have c0 := keep_cell hb c0
 have c1 := keep_cell hb c1
 have hb := below_tr hx hb
 obtain ⟨am, cm, rfl, x1, x2, _, x4⟩ := hm.keep hb
 obtain ⟨ac, cc, rfl, y1, y2, _, y4⟩ := hc.keep hb
 obtain ⟨am', cm', rfl, u1, u2, _, u4⟩ := hm'.keep hb
 obtain ⟨ac', cc', rfl, v1, v2, _, v4⟩ := hc'.keep hb
 have HXm : Hid _ := x4
 have HYm : Hid _ := u4
 have HXc : Hid _ := y4
 have HYc : Hid _ := v4
 clear x4 y4 u4 v4 hm hc hm' hc'
 by_cases hl1 : ms.length = ms'.length
 case neg =>
  have HR : Hid (decide (ms = ms' /\ cs = cs') = false) := by
   have h : ¬ (ms = ms' /\ cs = cs') := by rintro ⟨e, _⟩; subst e; exact hl1 rfl
   simp [Hid, h]
  have hl' : ((ms.length : Int) != (ms'.length : Int)) = true := by simp; omega
  clear HXm HYm HXc HYc
  go_enter Tryz.func22, Tryz.ntmps22
  go_wp2
  go_ret
  exact ⟨by rw [HR.out]; rfl, hb⟩
 by_cases hl2 : cs.length = cs'.length
 case neg =>
  have HR : Hid (decide (ms = ms' /\ cs = cs') = false) := by
   have h : ¬ (ms = ms' /\ cs = cs') := by rintro ⟨_, e⟩; subst e; exact hl2 rfl
   simp [Hid, h]
  have hl' : ((cs.length : Int) != (cs'.length : Int)) = true := by simp; omega
  rw [<- hl1] at c2 hW |-
  clear HXm HYm HXc HYc hl1 hl2
  go_enter Tryz.func22, Tryz.ntmps22
  go_wp2
  go_ret
  exact ⟨by rw [HR.out]; rfl, hb⟩
 rw [<- hl1] at u1 c2 hW |-
 rw [<- hl2] at v1 c3 hW |-
 have HLm : Hid (ms.length = ms'.length) := hl1
 have HLc : Hid (cs.length = cs'.length) := hl2
 clear hl1 hl2
 go_enter Tryz.func22, Tryz.ntmps22
 go_wp2
 go_loopw [5] (fun i wr => ∃ k : Nat, k <= ms.length /\ i = .int .i64 k /\ ms.take k = ms'.take k /\ Below W.heap.size W wr) (fun i _ => ms.length - (intOf i).toNat)
 case atStart => exact ⟨0, Nat.zero_le _, rfl, rfl, Below.refl _ _⟩
 case round =>
  obtain ⟨k, hk, rfl, htk, hbr⟩ := hrel
  have HT : Hid (ms.take k = ms'.take k) := htk
  clear htk
  have hbw := below_tr hb hbr
  have z0 := keep_cell hbr c0
  have z1 := keep_cell hbr c1
  have z2 := keep_cell hbr c2
  have z3 := keep_cell hbr c3
  by_cases hkl : k < ms.length
  ·have hkl' : k < ms'.length := by rw [<- HLm.out]; exact hkl
   obtain ⟨b, o, rfl, d0, d1⟩ := HXm.out k hkl
   obtain ⟨b', o', rfl, d0', d1'⟩ := HYm.out k hkl'
   have e0 := keep_cell hbr d0
   have e1 := keep_cell hbr d1
   have e0' := keep_cell hbr d0'
   have e1' := keep_cell hbr d1'
   clear d0 d1 d0' d1'
   by_cases he : ms[k] = ms'[k]'(by rw [<- HLm.out]; exact hkl)
   ·have HR : Hid (ms.take (k + 1) = ms'.take (k + 1)) := by
     rw [List.take_add_one, List.take_add_one, HT.out, List.getElem?_eq_getElem hkl, List.getElem?_eq_getElem (by rw [<- HLm.out]; exact hkl), he]; rfl
    rw [<- he] at e0' e1'
    obtain ⟨p, hp⟩ : ∃ p, p = ms[k].1 := ⟨_, rfl⟩
    obtain ⟨r, hr⟩ : ∃ r, r = ms[k].2 := ⟨_, rfl⟩
    rw [<- hp] at e0 e0'
    rw [<- hr] at e1 e1'
    clear he hp hr
    go_wp2
    go_region_held3 (fun w' => Below w.heap.size w w' /\ w'.cell? ⟨w.heap.size, 0, none⟩ = some (.slice (some ⟨b, o, none⟩) ms.length cm) /\ w'.cell? ⟨w.heap.size + 1, 0, none⟩ = some (.slice (some ⟨b', o', none⟩) ms.length cm') /\ w'.cell? ⟨b, o + k * 2, none⟩ = some (.int .u64 p) /\ w'.cell? ⟨b, o + k * 2 + 1, none⟩ = some (.int .i64 r) /\ w'.cell? ⟨b', o' + k * 2, none⟩ = some (.int .u64 p) /\ w'.cell? ⟨b', o' + k * 2 + 1, none⟩ = some (.int .i64 r)) (refine ⟨?_, ?_, ?_, ?_, ?_, ?_, ?_⟩ <;> first | (with_reducible refine Free.cell ?_; exact freeA) | (with_reducible refine Free.frozen ?_; exact freeA) | exact belA | exact cellA) (fail)
    all_goals go_wp2
    go_roundw
    case rel => exact ⟨k + 1, by omega, by go_num, HR.out, belA⟩
    case measure => simp [intOf]; omega
   ·have HR : Hid (decide (ms = ms' /\ cs = cs') = false) := by
     have h : ¬ (ms = ms' /\ cs = cs') := by rintro ⟨q1, q2⟩; subst q1; subst q2; exact he rfl
     simp [Hid, h]
    obtain ⟨p, hp⟩ : ∃ p, p = ms[k].1 := ⟨_, rfl⟩
    obtain ⟨r, hr⟩ : ∃ r, r = ms[k].2 := ⟨_, rfl⟩
    obtain ⟨p', hp'⟩ : ∃ p, p = (ms'[k]'(by rw [<- HLm.out]; exact hkl)).1 := ⟨_, rfl⟩
    obtain ⟨r', hr'⟩ : ∃ r, r = (ms'[k]'(by rw [<- HLm.out]; exact hkl)).2 := ⟨_, rfl⟩
    have hne : p = p' -> ¬ r = r' := by
     rintro h1 h2
     exact he (Prod.ext (by rw [<- hp, <- hp', h1]) (by rw [<- hr, <- hr', h2]))
    rw [<- hp] at e0
    rw [<- hr] at e1
    rw [<- hp'] at e0'
    rw [<- hr'] at e1'
    clear he hp hr hp' hr'
    rcases (show ¬ ((p : Int) = (p' : Int)) \/ (p = p' /\ ¬ r = r') by
     by_cases e : p = p'
     ·exact Or.inr ⟨e, hne e⟩
     ·exact Or.inl (by omega)) with hq | ⟨rfl, hq⟩
    ·clear hne
     go_wp2
     go_region_held3 (fun w' => Below w.heap.size w w' /\ w'.cell? ⟨w.heap.size, 0, none⟩ = some (.slice (some ⟨b, o, none⟩) ms.length cm) /\ w'.cell? ⟨w.heap.size + 1, 0, none⟩ = some (.slice (some ⟨b', o', none⟩) ms.length cm') /\ w'.cell? ⟨b, o + k * 2, none⟩ = some (.int .u64 p) /\ w'.cell? ⟨b, o + k * 2 + 1, none⟩ = some (.int .i64 r) /\ w'.cell? ⟨b', o' + k * 2, none⟩ = some (.int .u64 p') /\ w'.cell? ⟨b', o' + k * 2 + 1, none⟩ = some (.int .i64 r')) (refine ⟨?_, ?_, ?_, ?_, ?_, ?_, ?_⟩ <;> first | (with_reducible refine Free.cell ?_; exact freeA) | (with_reducible refine Free.frozen ?_; exact freeA) | exact belA | exact cellA) (fail)
     all_goals go_wp2
     all_goals go_ret
     all_goals exact ⟨by rw [HR.out]; rfl, belA⟩
    ·clear hne
     go_wp2
     go_region_held3 (fun w' => Below w.heap.size w w' /\ w'.cell? ⟨w.heap.size, 0, none⟩ = some (.slice (some ⟨b, o, none⟩) ms.length cm) /\ w'.cell? ⟨w.heap.size + 1, 0, none⟩ = some (.slice (some ⟨b', o', none⟩) ms.length cm') /\ w'.cell? ⟨b, o + k * 2, none⟩ = some (.int .u64 p) /\ w'.cell? ⟨b, o + k * 2 + 1, none⟩ = some (.int .i64 r) /\ w'.cell? ⟨b', o' + k * 2, none⟩ = some (.int .u64 p) /\ w'.cell? ⟨b', o' + k * 2 + 1, none⟩ = some (.int .i64 r')) (refine ⟨?_, ?_, ?_, ?_, ?_, ?_, ?_⟩ <;> first | (with_reducible refine Free.cell ?_; exact freeA) | (with_reducible refine Free.frozen ?_; exact freeA) | exact belA | exact cellA) (fail)
     all_goals go_wp2
     all_goals go_ret
     all_goals exact ⟨by rw [HR.out]; rfl, belA⟩
  ·have HE0 : Hid (ms = ms') := by
    have := HT.out
    rwa [List.take_of_length_le (by omega), List.take_of_length_le (by rw [<- HLm.out]; omega)] at this
   go_wp2
   go_loopw [6] (fun i wr => ∃ k : Nat, k <= cs.length /\ i = .int .i64 k /\ cs.take k = cs'.take k /\ Below W.heap.size W wr) (fun i _ => cs.length - (intOf i).toNat)
   case atStart => exact ⟨0, Nat.zero_le _, rfl, rfl, hbr⟩
   case round =>
    clear hbw z0 z1 z2 z3 HT hkl hk hbr
    obtain ⟨k, hk, rfl, htk, hbr⟩ := hrel
    rename_i wr'
    have HT : Hid (cs.take k = cs'.take k) := htk
    clear htk
    have hbw := below_tr hb hbr
    have z0 := keep_cell hbr c0
    have z1 := keep_cell hbr c1
    have z2 := keep_cell hbr c2
    have z3 := keep_cell hbr c3
    by_cases hkl : k < cs.length
    ·have hkl' : k < cs'.length := by rw [<- HLc.out]; exact hkl
     obtain ⟨b, o, rfl, d0, d1⟩ := HXc.out k hkl
     obtain ⟨b', o', rfl, d0', d1'⟩ := HYc.out k hkl'
     have e0 := keep_cell hbr d0
     have e1 := keep_cell hbr d1
     have e0' := keep_cell hbr d0'
     have e1' := keep_cell hbr d1'
     clear d0 d1 d0' d1'
     by_cases he : cs[k] = cs'[k]'(by rw [<- HLc.out]; exact hkl)
     ·have HR : Hid (cs.take (k + 1) = cs'.take (k + 1)) := by
       rw [List.take_add_one, List.take_add_one, HT.out, List.getElem?_eq_getElem hkl, List.getElem?_eq_getElem (by rw [<- HLc.out]; exact hkl), he]; rfl
      rw [<- he] at e0' e1'
      obtain ⟨p, hp⟩ : ∃ p, p = cs[k].1 := ⟨_, rfl⟩
      obtain ⟨r, hr⟩ : ∃ r, r = cs[k].2 := ⟨_, rfl⟩
      rw [<- hp] at e0 e0'
      rw [<- hr] at e1 e1'
      clear he hp hr
      go_wp2
      go_region_held3 (fun w' => Below w.heap.size w w' /\ w'.cell? ⟨w.heap.size, 1, none⟩ = some (.slice (some ⟨b, o, none⟩) cs.length cc) /\ w'.cell? ⟨w.heap.size + 1, 1, none⟩ = some (.slice (some ⟨b', o', none⟩) cs.length cc') /\ w'.cell? ⟨b, o + k * 2, none⟩ = some (.int .u64 p) /\ w'.cell? ⟨b, o + k * 2 + 1, none⟩ = some (.int .u64 r) /\ w'.cell? ⟨b', o' + k * 2, none⟩ = some (.int .u64 p) /\ w'.cell? ⟨b', o' + k * 2 + 1, none⟩ = some (.int .u64 r)) (refine ⟨?_, ?_, ?_, ?_, ?_, ?_, ?_⟩ <;> first | (with_reducible refine Free.cell ?_; exact freeA) | (with_reducible refine Free.frozen ?_; exact freeA) | exact belA | exact cellA) (fail)
      all_goals go_wp2
      go_roundw
      case rel => exact ⟨k + 1, by omega, by go_num, HR.out, belA⟩
      case measure => simp [intOf]; omega
     ·have HR : Hid (decide (ms = ms' /\ cs = cs') = false) := by
       have h : ¬ (ms = ms' /\ cs = cs') := by rintro ⟨q1, q2⟩; subst q1; subst q2; exact he rfl
       simp [Hid, h]
      obtain ⟨p, hp⟩ : ∃ p, p = cs[k].1 := ⟨_, rfl⟩
      obtain ⟨r, hr⟩ : ∃ r, r = cs[k].2 := ⟨_, rfl⟩
      obtain ⟨p', hp'⟩ : ∃ p, p = (cs'[k]'(by rw [<- HLc.out]; exact hkl)).1 := ⟨_, rfl⟩
      obtain ⟨r', hr'⟩ : ∃ r, r = (cs'[k]'(by rw [<- HLc.out]; exact hkl)).2 := ⟨_, rfl⟩
      have hne : p = p' -> ¬ r = r' := by
       rintro h1 h2
       exact he (Prod.ext (by rw [<- hp, <- hp', h1]) (by rw [<- hr, <- hr', h2]))
      rw [<- hp] at e0
      rw [<- hr] at e1
      rw [<- hp'] at e0'
      rw [<- hr'] at e1'
      clear he hp hr hp' hr'
      rcases (show ¬ ((p : Int) = (p' : Int)) \/ (p = p' /\ ¬ r = r') by
       by_cases e : p = p'
       ·exact Or.inr ⟨e, hne e⟩
       ·exact Or.inl (by omega)) with hq | ⟨rfl, hq⟩
      ·clear hne
       go_wp2
       go_region_held3 (fun w' => Below w.heap.size w w' /\ w'.cell? ⟨w.heap.size, 1, none⟩ = some (.slice (some ⟨b, o, none⟩) cs.length cc) /\ w'.cell? ⟨w.heap.size + 1, 1, none⟩ = some (.slice (some ⟨b', o', none⟩) cs.length cc') /\ w'.cell? ⟨b, o + k * 2, none⟩ = some (.int .u64 p) /\ w'.cell? ⟨b, o + k * 2 + 1, none⟩ = some (.int .u64 r) /\ w'.cell? ⟨b', o' + k * 2, none⟩ = some (.int .u64 p') /\ w'.cell? ⟨b', o' + k * 2 + 1, none⟩ = some (.int .u64 r')) (refine ⟨?_, ?_, ?_, ?_, ?_, ?_, ?_⟩ <;> first | (with_reducible refine Free.cell ?_; exact freeA) | (with_reducible refine Free.frozen ?_; exact freeA) | exact belA | exact cellA) (fail)
       all_goals go_wp2
       all_goals go_ret
       all_goals exact ⟨by rw [HR.out]; rfl, belA⟩
      ·clear hne
       go_wp2
       go_region_held3 (fun w' => Below w.heap.size w w' /\ w'.cell? ⟨w.heap.size, 1, none⟩ = some (.slice (some ⟨b, o, none⟩) cs.length cc) /\ w'.cell? ⟨w.heap.size + 1, 1, none⟩ = some (.slice (some ⟨b', o', none⟩) cs.length cc') /\ w'.cell? ⟨b, o + k * 2, none⟩ = some (.int .u64 p) /\ w'.cell? ⟨b, o + k * 2 + 1, none⟩ = some (.int .u64 r) /\ w'.cell? ⟨b', o' + k * 2, none⟩ = some (.int .u64 p) /\ w'.cell? ⟨b', o' + k * 2 + 1, none⟩ = some (.int .u64 r')) (refine ⟨?_, ?_, ?_, ?_, ?_, ?_, ?_⟩ <;> first | (with_reducible refine Free.cell ?_; exact freeA) | (with_reducible refine Free.frozen ?_; exact freeA) | exact belA | exact cellA) (fail)
       all_goals go_wp2
       all_goals go_ret
       all_goals exact ⟨by rw [HR.out]; rfl, belA⟩
    ·have HE1 : Hid (cs = cs') := by
      have := HT.out
      rwa [List.take_of_length_le (by omega), List.take_of_length_le (by rw [<- HLc.out]; omega)] at this
     have HR : Hid (decide (ms = ms' /\ cs = cs') = true) := by
      have h : ms = ms' /\ cs = cs' := ⟨HE0.out, HE1.out⟩
      simp [Hid, h]
     go_wp2
     go_ret
     exact ⟨by rw [HR.out]; rfl, hbw⟩
def loadV (ms cs : List (Nat × Int)) (a k : Nat) : Nat := if (faultFrom ms a 1 0 k).1 = 0 then loadN cs a k else 0
theorem find_mid (xs : List (Nat × Int)) (a b c : Nat) (h1 : a <= c) (h2 : c <= b) : (mid xs a b).find? (fun x => x.1 == c) = xs.find? (fun x => x.1 == c) := by
 rw [mid, List.find?_filter]
 congr 1; funext x
 by_cases e : x.1 = c
 ·simp [e, h1, h2]
 ·simp [e]
end Go.Proofs.YtimfipkbddpdmaaGreatDoor.Gm
namespace Go.Proofs.YtimfipkbddpdmaaGreatDoor.Gm
open Go.RowKit Go.Shelf
attribute [local go_sem] Oper.semAt_some
structure But (n₀ wb : Nat) (w w' : World) : Prop where
 os : w'.os = w.os
 tape : w'.tape = w.tape
 output : w'.output = w.output
 size : w.heap.size <= w'.heap.size
 block : ∀ k, k < n₀ -> k ≠ wb -> w'.heap[k]? = w.heap[k]?
theorem But.refl (n₀ wb : Nat) (w : World) : But n₀ wb w w := ⟨rfl, rfl, rfl, Nat.le_refl _, fun _ _ _ => rfl⟩
theorem But.trans {n₀ wb : Nat} {a b c : World} (h : But n₀ wb a b) (k : But n₀ wb b c) : But n₀ wb a c :=
 ⟨k.os.trans h.os, k.tape.trans h.tape, k.output.trans h.output, Nat.le_trans h.size k.size, fun i hi hn => (k.block i hi hn).trans (h.block i hi hn)⟩
theorem But.grown {n₀ wb : Nat} {w w' : World} (h : w.grownBy w' (some wb)) (hn : n₀ <= w.heap.size) : But n₀ wb w w' :=
 ⟨h.os, h.tape, h.output, h.size, fun k hk hne => h.block k (by omega) (fun e => hne (by cases e; rfl))⟩
theorem But.row {n₀ wb : Nat} {a w w' : World} {row : Option Nat} (h : But n₀ wb a w) (hg : w.grownBy w' row) (hn : n₀ <= w.heap.size) (hr : ∀ r, row = some r -> n₀ <= r) : But n₀ wb a w' :=
 h.trans ⟨hg.os, hg.tape, hg.output, hg.size, fun k hk _ => hg.block k (by omega) (fun e => by have := hr k e.symm; omega)⟩
theorem But.cell {n₀ wb : Nat} {w w' : World} (h : But n₀ wb w w') {p : Addr} {v : Value} (h1 : p.block < n₀) (h2 : p.block ≠ wb) (hc : w.cell? p = some v) : w'.cell? p = some v :=
 (World.cell?_of_block (w := w) (h.block p.block h1 h2)).trans hc
theorem own_row {w w' : World} {B e n : Nat} {v : Value} {xs : List Value} {row : Option Nat} (h : w.ownsRow B e 2 v n xs) (hg : w.grownBy w' row) (hr : ∀ r, row = some r -> ∃ o : Obj, w.heap[r]? = some o /\ o.isCells = false) : w'.ownsRow B e 2 v n xs := by
 refine h.kept hg ?_
 cases hv : v.ownBlock with
 | none => exact Or.inl rfl
 | some g =>
  refine Or.inr (fun e' => ?_)
  obtain ⟨c, fz, hk⟩ := Go.Lib.ownsRow_kind h g hv
  obtain ⟨o, ho, hc⟩ := hr g e'.symm
  rw [hk] at ho
  cases ho
  cases hc
end Go.Proofs.YtimfipkbddpdmaaGreatDoor.Gm
namespace Go.Proofs.YtimfipkbddpdmaaGreatDoor
section
variable {P : Program} {ops : Array Oper} {Q : Exit -> Act -> World -> Prop} {md : Region.Mode} {S : World -> Prop} {M : Nat}
end
end Go.Proofs.YtimfipkbddpdmaaGreatDoor
