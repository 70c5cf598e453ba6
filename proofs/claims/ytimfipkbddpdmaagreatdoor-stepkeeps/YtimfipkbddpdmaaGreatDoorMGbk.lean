import Derived.Test.YtimfipkbddpdmaaGreatDoorMCopied
import Derived.Lib.OwnKind
import Derived.OneCell
import Derived.Test.YtimfipkbddpdmaaGreatDoorMGfit
import Derived.Test.YtimfipkbddpdmaaGreatDoorMHeld
import Derived.Laws.OwnMore
import Derived.LoopTactic
import Derived.Test.YtimfipkbddpdmaaGreatDoorMGdoc
import Derived.Test.YtimfipkbddpdmaaGreatDoorLast
import Derived.Laws.StructEq
import Derived.Test.YtimfipkbddpdmaaGreatDoorVals
import Derived.Test.YtimfipkbddpdmaaGreatDoorMPlain
import Derived.Test.YtimfipkbddpdmaaGreatDoorEach
import Derived.RangeFuncBox
import Derived.OwnWalkIn
import Derived.Test.YtimfipkbddpdmaaGreatDoorMGw
set_option linter.unusedVariables false
set_option linter.unusedSimpArgs false
set_option maxRecDepth 100000
open Go Go.RowKit
namespace Go.Proofs.YtimfipkbddpdmaaGreatDoor.Gm
def sameG (ms cs ps : List (Nat × Int)) (bs : Nat) (ms' cs' ps' : List (Nat × Int)) (bs' : Nat) : Bool := decide (ms = ms' /\ cs = cs' /\ bs = bs' /\ ps = ps')
set_option maxHeartbeats 4000000 in
theorem rsame13 (vm vc vp vm' vc' vp' : Value) (ms cs ps ms' cs' ps' : List (Nat × Int)) (bs bs' : Nat) (w : World) (hsl : SlG w vm vc vp ms cs ps) (hsl' : SlG w vm' vc' vp' ms' cs' ps') :
  Calls Tryz.prog 10 #[.agg #[vm, vc, .int .u64 bs, vp], .agg #[vm', vc', .int .u64 bs', vp']] w fun e w' => e = .returned (.bool (sameG ms cs ps bs ms' cs' ps' bs')) /\ Below w.heap.size w w' := by
 obtain ⟨X, hX, hx, hxs, c0, c1, c2, c3, _⟩ := box4 w vm vc (.int .u64 bs) vp 33
 obtain ⟨W, hW, hb, hsz, a0, a1, a2, a3, _⟩ := box4 X vm' vc' (.int .u64 bs') vp' 33
 rw [hxs] at a0 a1 a2 a3
 have c0 := keep_cell hb c0
 have c1 := keep_cell hb c1
 have c2 := keep_cell hb c2
 have c3 := keep_cell hb c3
 have hb := below_tr hx hb
 have KS : Hid (∀ w', Below W.heap.size W w' -> Calls Tryz.prog 22 #[.agg #[vm, vc], .agg #[vm', vc']] w' fun e w'' => e = .returned (.bool (decide (ms = ms' /\ cs = cs'))) /\ Below w'.heap.size w' w'') := fun w' hb' => rsame12 vm vc vm' vc' ms cs ms' cs' w' (hsl.1.keep (below_tr hb hb')) (hsl.2.1.keep (below_tr hb hb')) (hsl'.1.keep (below_tr hb hb')) (hsl'.2.1.keep (below_tr hb hb'))
 obtain ⟨am, nm, pm, ac, nc, pc, _, _, _, rfl, rfl, -⟩ := hsl.shape
 obtain ⟨am', nm', pm', ac', nc', pc', _, _, _, rfl, rfl, -⟩ := hsl'.shape
 obtain ⟨ap, cp, rfl, x1, x2, _, x4⟩ := hsl.2.2.keep hb
 obtain ⟨ap', cp', rfl, u1, u2, _, u4⟩ := hsl'.2.2.keep hb
 have HXm : Hid _ := x4
 have HYm : Hid _ := u4
 clear x4 u4 hsl hsl'
 by_cases hh : ms = ms' /\ cs = cs'
 case neg =>
  have HR : Hid (sameG ms cs ps bs ms' cs' ps' bs' = false) := by
   have h : ¬ (ms = ms' /\ cs = cs' /\ bs = bs' /\ ps = ps') := fun ⟨q1, q2, _⟩ => hh ⟨q1, q2⟩
   exact (decide_eq_false h : sameG _ _ _ _ _ _ _ _ = false)
  rw [decide_eq_false hh] at KS
  go_enter Tryz.func10, Tryz.ntmps10
  go_wp2_with fail
  refine (KS.out W (Below.refl _ _)).mono ?_
  rintro e w1 ⟨rfl, hb1⟩
  go_wp2
  go_ret
  exact ⟨by rw [HR.out]; rfl, below_tr hb hb1⟩
 rw [decide_eq_true hh] at KS
 have HH : Hid (ms = ms' /\ cs = cs') := hh
 clear hh
 by_cases hbb : bs = bs'
 case neg =>
  have HR : Hid (sameG ms cs ps bs ms' cs' ps' bs' = false) := by
   have h : ¬ (ms = ms' /\ cs = cs' /\ bs = bs' /\ ps = ps') := fun ⟨_, _, q1, _⟩ => hbb q1
   exact (decide_eq_false h : sameG _ _ _ _ _ _ _ _ = false)
  have hbn : ((bs : Int) != (bs' : Int)) = true := by simp; omega
  go_enter Tryz.func10, Tryz.ntmps10
  go_wp2_with fail
  refine (KS.out W (Below.refl _ _)).mono ?_
  rintro e w1 ⟨rfl, hb1⟩
  have c2 := keep_cell hb1 c2
  have a2 := keep_cell hb1 a2
  go_wp2
  go_ret
  exact ⟨by rw [HR.out]; rfl, below_tr hb hb1⟩
 subst hbb
 by_cases hl1 : ps.length = ps'.length
 case neg =>
  have HR : Hid (sameG ms cs ps bs ms' cs' ps' bs = false) := by
   have h : ¬ (ms = ms' /\ cs = cs' /\ bs = bs /\ ps = ps') := fun ⟨_, _, _, e⟩ => by subst e; exact hl1 rfl
   exact (decide_eq_false h : sameG _ _ _ _ _ _ _ _ = false)
  have hl' : ((ps.length : Int) != (ps'.length : Int)) = true := by simp; omega
  go_enter Tryz.func10, Tryz.ntmps10
  go_wp2_with fail
  refine (KS.out W (Below.refl _ _)).mono ?_
  rintro e w1 ⟨rfl, hb1⟩
  have c2 := keep_cell hb1 c2
  have a2 := keep_cell hb1 a2
  have c3 := keep_cell hb1 c3
  have a3 := keep_cell hb1 a3
  go_wp2
  go_ret
  exact ⟨by rw [HR.out]; rfl, below_tr hb hb1⟩
 rw [<- hl1] at u1 a3 hW |-
 have HLm : Hid (ps.length = ps'.length) := hl1
 clear hl1
 go_enter Tryz.func10, Tryz.ntmps10
 go_wp2_with fail
 refine (KS.out W (Below.refl _ _)).mono ?_
 rintro e w1 ⟨rfl, hb1⟩
 have c2 := keep_cell hb1 c2
 have a2 := keep_cell hb1 a2
 have c3 := keep_cell hb1 c3
 have a3 := keep_cell hb1 a3
 have hb := below_tr hb hb1
 have HXm : Hid (∀ i (h : i < ps.length), ∃ b o, ap = some ⟨b, o, none⟩ /\ w1.cell? ⟨b, o + i * 2, none⟩ = some (.int .u32 (ps[i].1 : Int)) /\ w1.cell? ⟨b, o + i * 2 + 1, none⟩ = some (.int .i64 ps[i].2)) := fun i hi => by
  obtain ⟨b, o, e, x, y⟩ := HXm.out i hi
  exact ⟨b, o, e, keep_cell hb1 x, keep_cell hb1 y⟩
 have HYm : Hid (∀ i (h : i < ps'.length), ∃ b o, ap' = some ⟨b, o, none⟩ /\ w1.cell? ⟨b, o + i * 2, none⟩ = some (.int .u32 (ps'[i].1 : Int)) /\ w1.cell? ⟨b, o + i * 2 + 1, none⟩ = some (.int .i64 ps'[i].2)) := fun i hi => by
  obtain ⟨b, o, e, x, y⟩ := HYm.out i hi
  exact ⟨b, o, e, keep_cell hb1 x, keep_cell hb1 y⟩
 clear hb1 KS
 go_wp2
 go_loopw [5] (fun i wr => ∃ k : Nat, k <= ps.length /\ i = .int .i64 k /\ ps.take k = ps'.take k /\ Below w1.heap.size w1 wr) (fun i _ => ps.length - (intOf i).toNat)
 case atStart => exact ⟨0, Nat.zero_le _, rfl, rfl, Below.refl _ _⟩
 case round =>
  obtain ⟨k, hk, rfl, htk, hbr⟩ := hrel
  have HT : Hid (ps.take k = ps'.take k) := htk
  clear htk
  have hbw := below_tr hb hbr
  have z2 := keep_cell hbr c3
  have z3 := keep_cell hbr a3
  by_cases hkl : k < ps.length
  ·have hkl' : k < ps'.length := by rw [<- HLm.out]; exact hkl
   obtain ⟨b, o, rfl, d0, d1⟩ := HXm.out k hkl
   obtain ⟨b', o', rfl, d0', d1'⟩ := HYm.out k hkl'
   have e0 := keep_cell hbr d0
   have e1 := keep_cell hbr d1
   have e0' := keep_cell hbr d0'
   have e1' := keep_cell hbr d1'
   clear d0 d1 d0' d1'
   by_cases he : ps[k] = ps'[k]'(by rw [<- HLm.out]; exact hkl)
   ·have HR : Hid (ps.take (k + 1) = ps'.take (k + 1)) := by
     rw [List.take_add_one, List.take_add_one, HT.out, List.getElem?_eq_getElem hkl, List.getElem?_eq_getElem (by rw [<- HLm.out]; exact hkl), he]; rfl
    rw [<- he] at e0' e1'
    obtain ⟨p, hp⟩ : ∃ p, p = ps[k].1 := ⟨_, rfl⟩
    obtain ⟨r, hr⟩ : ∃ r, r = ps[k].2 := ⟨_, rfl⟩
    rw [<- hp] at e0 e0'
    rw [<- hr] at e1 e1'
    clear he hp hr
    go_wp2
    go_region_held3 (fun w' => Below w.heap.size w w' /\ w'.cell? ⟨w.heap.size, 3, none⟩ = some (.slice (some ⟨b, o, none⟩) ps.length cp) /\ w'.cell? ⟨w.heap.size + 1, 3, none⟩ = some (.slice (some ⟨b', o', none⟩) ps.length cp') /\ w'.cell? ⟨b, o + k * 2, none⟩ = some (.int .u32 p) /\ w'.cell? ⟨b, o + k * 2 + 1, none⟩ = some (.int .i64 r) /\ w'.cell? ⟨b', o' + k * 2, none⟩ = some (.int .u32 p) /\ w'.cell? ⟨b', o' + k * 2 + 1, none⟩ = some (.int .i64 r)) (refine ⟨?_, ?_, ?_, ?_, ?_, ?_, ?_⟩ <;> first | (with_reducible refine Free.cell ?_; exact freeA) | (with_reducible refine Free.frozen ?_; exact freeA) | exact belA | exact cellA) (fail)
    all_goals go_wp2
    go_roundw
    case rel => exact ⟨k + 1, by omega, by go_num, HR.out, belA⟩
    case measure => simp [intOf]; omega
   ·have HR : Hid (sameG ms cs ps bs ms' cs' ps' bs = false) := by
     have h : ¬ (ms = ms' /\ cs = cs' /\ bs = bs /\ ps = ps') := by rintro ⟨_, _, _, q2⟩; subst q2; exact he rfl
     exact (decide_eq_false h : sameG _ _ _ _ _ _ _ _ = false)
    obtain ⟨p, hp⟩ : ∃ p, p = ps[k].1 := ⟨_, rfl⟩
    obtain ⟨r, hr⟩ : ∃ r, r = ps[k].2 := ⟨_, rfl⟩
    obtain ⟨p', hp'⟩ : ∃ p, p = (ps'[k]'(by rw [<- HLm.out]; exact hkl)).1 := ⟨_, rfl⟩
    obtain ⟨r', hr'⟩ : ∃ r, r = (ps'[k]'(by rw [<- HLm.out]; exact hkl)).2 := ⟨_, rfl⟩
    have hne : p = p' -> ¬ r = r' := by
     rintro h1 h2
     exact he (Prod.ext (by rw [<- hp, <- hp', h1]) (by rw [<- hr, <- hr', h2]))
    rw [<- hp] at e0
    rw [<- hr] at e1
    rw [<- hp'] at e0'
    rw [<- hr'] at e1'
    clear he hp hr hp' hr'
    rcases (show ¬ ((p : Int) = (p' : Int)) \/ (p = p' /\ ¬ r = r') by
     by_cases e : p = p'
     ·exact Or.inr ⟨e, hne e⟩
     ·exact Or.inl (by omega)) with hq | ⟨rfl, hq⟩
    ·clear hne
     go_wp2
     go_region_held3 (fun w' => Below w.heap.size w w' /\ w'.cell? ⟨w.heap.size, 3, none⟩ = some (.slice (some ⟨b, o, none⟩) ps.length cp) /\ w'.cell? ⟨w.heap.size + 1, 3, none⟩ = some (.slice (some ⟨b', o', none⟩) ps.length cp') /\ w'.cell? ⟨b, o + k * 2, none⟩ = some (.int .u32 p) /\ w'.cell? ⟨b, o + k * 2 + 1, none⟩ = some (.int .i64 r) /\ w'.cell? ⟨b', o' + k * 2, none⟩ = some (.int .u32 p') /\ w'.cell? ⟨b', o' + k * 2 + 1, none⟩ = some (.int .i64 r')) (refine ⟨?_, ?_, ?_, ?_, ?_, ?_, ?_⟩ <;> first | (with_reducible refine Free.cell ?_; exact freeA) | (with_reducible refine Free.frozen ?_; exact freeA) | exact belA | exact cellA) (fail)
     all_goals go_wp2
     all_goals go_ret
     all_goals exact ⟨by rw [HR.out]; rfl, belA⟩
    ·clear hne
     go_wp2
     go_region_held3 (fun w' => Below w.heap.size w w' /\ w'.cell? ⟨w.heap.size, 3, none⟩ = some (.slice (some ⟨b, o, none⟩) ps.length cp) /\ w'.cell? ⟨w.heap.size + 1, 3, none⟩ = some (.slice (some ⟨b', o', none⟩) ps.length cp') /\ w'.cell? ⟨b, o + k * 2, none⟩ = some (.int .u32 p) /\ w'.cell? ⟨b, o + k * 2 + 1, none⟩ = some (.int .i64 r) /\ w'.cell? ⟨b', o' + k * 2, none⟩ = some (.int .u32 p) /\ w'.cell? ⟨b', o' + k * 2 + 1, none⟩ = some (.int .i64 r')) (refine ⟨?_, ?_, ?_, ?_, ?_, ?_, ?_⟩ <;> first | (with_reducible refine Free.cell ?_; exact freeA) | (with_reducible refine Free.frozen ?_; exact freeA) | exact belA | exact cellA) (fail)
     all_goals go_wp2
     all_goals go_ret
     all_goals exact ⟨by rw [HR.out]; rfl, belA⟩
  ·have HR : Hid (sameG ms cs ps bs ms' cs' ps' bs = true) := by
    have := HT.out
    rw [List.take_of_length_le (by omega), List.take_of_length_le (by rw [<- HLm.out]; omega)] at this
    exact (decide_eq_true ⟨HH.out.1, HH.out.2, (rfl : bs = bs), this⟩ : sameG _ _ _ _ _ _ _ _ = true)
   go_wp2
   go_ret
   exact ⟨by rw [HR.out]; rfl, hbw⟩
end Go.Proofs.YtimfipkbddpdmaaGreatDoor.Gm
namespace Go.Proofs.YtimfipkbddpdmaaGreatDoor.Gm
attribute [local go_sem] Oper.semAt_some
theorem KeepsOthers.of_below {W W' : World} (h : Below W.heap.size W W') : KeepsOthers W W' := ⟨h.size, fun k o hk _ => (h.block k (Array.getElem?_eq_some_iff.1 hk).1).trans hk⟩
end Go.Proofs.YtimfipkbddpdmaaGreatDoor.Gm
