import Derived.Test.YtimfipkbddpdmaaGreatDoorMHeld
import Derived.Test.YtimfipkbddpdmaaGreatDoorMSpan
import Derived.Test.YtimfipkbddpdmaaGreatDoorMCopied
set_option linter.unusedVariables false
set_option linter.unusedSimpArgs false
set_option maxRecDepth 100000
open Go Go.RowKit
namespace Go.Proofs.YtimfipkbddpdmaaGreatDoor.Gm
open Go.RowKit Go.BigFrame
def MapOk (ms : List (Nat × Int)) (i : Nat) : Prop := (ms.getD i (0, 0)).1 < 1125899906842624 /\ 0 <= (ms.getD i (0, 0)).2 /\ (ms.getD i (0, 0)).2 <= 7 /\ (0 < i -> (ms.getD (i - 1) (0, 0)).1 < (ms.getD i (0, 0)).1)
def CellOk (ms cs : List (Nat × Int)) (i : Nat) : Prop := (cs.getD i (0, 0)).1 % 8 = 0 /\ (cs.getD i (0, 0)).2 ≠ 0 /\ (0 < i -> (cs.getD (i - 1) (0, 0)).1 < (cs.getD i (0, 0)).1) /\ 0 <= placeOf ms ((cs.getD i (0, 0)).1 / 16384)
def FitP (ms cs : List (Nat × Int)) : Prop := ms.length <= 64 /\ cs.length <= 65536 /\ (∀ i, i < ms.length -> MapOk ms i) /\ (∀ i, i < cs.length -> CellOk ms cs i)
open Classical in
noncomputable def fitB (ms cs : List (Nat × Int)) : Bool := decide (FitP ms cs)
theorem fitB_no {ms cs : List (Nat × Int)} (h : ¬ FitP ms cs) : fitB ms cs = false := by simp [fitB, h]
theorem fitB_yes {ms cs : List (Nat × Int)} (h : FitP ms cs) : fitB ms cs = true := by simp [fitB, h]
set_option maxHeartbeats 2000000 in
theorem rfit10 (vm vc : Value) (ms cs : List (Nat × Int)) (w : World) (hm : Sl .i64 w vm ms) (hc : Sl .u64 w vc cs) (hrg : ∀ i, (cs.getD i (0, 0)).1 < 18446744073709551616) :
  Calls Tryz.prog 31 #[.agg #[vm, vc]] w fun e w' => e = .returned (.bool (fitB ms cs)) /\ Below w.heap.size w w' := by
 obtain ⟨W, hW, hb, hsz, c0, c1, _, _⟩ := box2 w vm vc 29
 have HP : Hid (∀ p w', Below w.heap.size w w' -> Calls Tryz.prog 32 #[.agg #[vm, vc], .int .u64 ((p : Nat) : Int)] w' fun e w'' => e = .returned (.int .i64 (placeOf ms p)) /\ Below w'.heap.size w' w'') := fun p w' hb' => place33 vm vc ms p w' (hm.keep hb') (by obtain ⟨a, q, h, _⟩ := hc; exact ⟨_, _, _, h⟩)
 obtain ⟨ao, cap, rfl, h1, h2, h3, h4⟩ := hm
 obtain ⟨ao', cap', rfl, k1, k2, k3, k4⟩ := hc
 have HM : Hid (∀ i, i < ms.length -> ∃ b o, ao = some ⟨b, o, none⟩ /\ W.cell? ⟨b, o + i * 2, none⟩ = some (.int .u64 ((ms.getD i (0, 0)).1 : Int)) /\ W.cell? ⟨b, o + i * 2 + 1, none⟩ = some (.int .i64 (ms.getD i (0, 0)).2)) := fun i hi => by
  obtain ⟨b, o, e, d0, d1⟩ := h4 i hi
  exact ⟨b, o, e, by simpa [hi] using keep_cell hb d0, by simpa [hi] using keep_cell hb d1⟩
 have HC : Hid (∀ i, i < cs.length -> ∃ b o, ao' = some ⟨b, o, none⟩ /\ W.cell? ⟨b, o + i * 2, none⟩ = some (.int .u64 ((cs.getD i (0, 0)).1 : Int)) /\ W.cell? ⟨b, o + i * 2 + 1, none⟩ = some (.int .u64 (cs.getD i (0, 0)).2)) := fun i hi => by
  obtain ⟨b, o, e, d0, d1⟩ := k4 i hi
  exact ⟨b, o, e, by simpa [hi] using keep_cell hb d0, by simpa [hi] using keep_cell hb d1⟩
 have HRG : Hid _ := hrg
 clear h3 h4 k3 k4 hrg
 by_cases l1 : ms.length <= 64
 case neg =>
  have HR : Hid (fitB ms cs = false) := fitB_no (fun h => l1 h.1)
  clear HM HC HP
  go_enter Tryz.func31, Tryz.ntmps31
  go_wp2
  go_ret
  exact ⟨by rw [HR.out]; rfl, hb⟩
 by_cases l2 : cs.length <= 65536
 case neg =>
  have HR : Hid (fitB ms cs = false) := fitB_no (fun h => l2 h.2.1)
  clear HM HC HP
  go_enter Tryz.func31, Tryz.ntmps31
  go_wp2
  go_ret
  exact ⟨by rw [HR.out]; rfl, hb⟩
 go_enter Tryz.func31, Tryz.ntmps31
 go_wp2
 go_loopw [3] (fun i wr => ∃ k : Nat, k <= ms.length /\ i = .int .i64 k /\ (∀ j, j < k -> MapOk ms j) /\ Below W.heap.size W wr) (fun i _ => ms.length - (intOf i).toNat)
 case atStart => exact ⟨0, Nat.zero_le _, rfl, fun j hj => by omega, Below.refl _ _⟩
 case round =>
  obtain ⟨k, hk, rfl, hno, hbr⟩ := hrel
  have HN : Hid _ := hno
  clear hno
  have e0 := keep_cell hbr c0
  have e1 := keep_cell hbr c1
  by_cases hkl : k < ms.length
  ·obtain ⟨b, o, rfl, d0, d1⟩ := HM.out k hkl
   have f0 := keep_cell hbr d0
   have f1 := keep_cell hbr d1
   obtain ⟨p, hp⟩ : ∃ p, p = (ms.getD k (0, 0)).1 := ⟨_, rfl⟩
   obtain ⟨r, hr⟩ : ∃ r, r = (ms.getD k (0, 0)).2 := ⟨_, rfl⟩
   have HX : Hid (p = (ms.getD k (0, 0)).1 /\ r = (ms.getD k (0, 0)).2) := ⟨hp, hr⟩
   rw [<- hp] at f0
   rw [<- hr] at f1
   clear hp hr d0 d1
   obtain ⟨W2, hW2, hb2, _, q0, q1, _, _⟩ := box2 wr (.int .u64 p) (.int .i64 r) 86
   have e0 := keep_cell hb2 e0
   have hbr2 := below_tr hbr hb2
   go_wp2
   by_cases a1 : 1125899906842624 <= (p : Int)
   ·have HR : Hid (fitB ms cs = false) := fitB_no (fun h => by have := (h.2.2.1 k hkl).1; rw [<- HX.out.1] at this; omega)
    have A1 : decide (1125899906842624 <= (p : Int)) = true := decide_eq_true a1
    clear a1
    haveI : Nonempty (Grew W2) := ⟨⟨W2, Below.refl _ _⟩⟩
    have z0 := grew_cell e0
    have z1 := grew_cell q0
    have z2 := grew_cell q1
    refine wp_region_quiet_grew (by kernel_rfl) (by kernel_rfl) ?_
    repeat (go_big_quiet_step (fail))
    refine wpQuiet_nil ?_
    rintro _ ⟨pq, rfl⟩
    (try clear A3)
    (try clear A2)
    (try clear A1)
    clear z0 z1 z2
    have hbq := below_tr hbr2 pq.bel
    all_goals go_wp2
    all_goals go_ret
    all_goals exact ⟨by rw [HR.out]; rfl, below_tr hb hbq⟩
   have A1 : decide (1125899906842624 <= (p : Int)) = false := decide_eq_false a1
   have B1 : Hid (¬ (1125899906842624 <= (p : Int))) := a1
   clear a1
   by_cases a2 : r < 0
   ·have HR : Hid (fitB ms cs = false) := fitB_no (fun h => by have := (h.2.2.1 k hkl).2.1; rw [<- HX.out.2] at this; omega)
    have A2 : decide (r < 0) = true := decide_eq_true a2
    clear a2
    haveI : Nonempty (Grew W2) := ⟨⟨W2, Below.refl _ _⟩⟩
    have z0 := grew_cell e0
    have z1 := grew_cell q0
    have z2 := grew_cell q1
    refine wp_region_quiet_grew (by kernel_rfl) (by kernel_rfl) ?_
    repeat (go_big_quiet_step (fail))
    refine wpQuiet_nil ?_
    rintro _ ⟨pq, rfl⟩
    (try clear A3)
    (try clear A2)
    (try clear A1)
    clear z0 z1 z2
    have hbq := below_tr hbr2 pq.bel
    all_goals go_wp2
    all_goals go_ret
    all_goals exact ⟨by rw [HR.out]; rfl, below_tr hb hbq⟩
   have A2 : decide (r < 0) = false := decide_eq_false a2
   have B2 : Hid (¬ (r < 0)) := a2
   clear a2
   by_cases a3 : 7 < r
   ·have HR : Hid (fitB ms cs = false) := fitB_no (fun h => by have := (h.2.2.1 k hkl).2.2.1; rw [<- HX.out.2] at this; omega)
    have A3 : decide (7 < r) = true := decide_eq_true a3
    clear a3
    haveI : Nonempty (Grew W2) := ⟨⟨W2, Below.refl _ _⟩⟩
    have z0 := grew_cell e0
    have z1 := grew_cell q0
    have z2 := grew_cell q1
    refine wp_region_quiet_grew (by kernel_rfl) (by kernel_rfl) ?_
    repeat (go_big_quiet_step (fail))
    refine wpQuiet_nil ?_
    rintro _ ⟨pq, rfl⟩
    (try clear A3)
    (try clear A2)
    (try clear A1)
    clear z0 z1 z2
    have hbq := below_tr hbr2 pq.bel
    all_goals go_wp2
    all_goals go_ret
    all_goals exact ⟨by rw [HR.out]; rfl, below_tr hb hbq⟩
   have A3 : decide (7 < r) = false := decide_eq_false a3
   have B3 : Hid (¬ (7 < r)) := a3
   clear a3
   have BB : Hid ((p : Int) < 1125899906842624 /\ 0 <= r /\ r <= 7) := ⟨by have := B1.out; omega, by have := B2.out; omega, by have := B3.out; omega⟩
   cases k with
   | zero =>
    have HK : Hid (∀ j, j < 1 -> MapOk ms j) := fun j hj => by
     obtain rfl : j = 0 := by omega
     exact ⟨by rw [<- HX.out.1]; exact Int.ofNat_lt.1 BB.out.1, by rw [<- HX.out.2]; exact BB.out.2.1, by rw [<- HX.out.2]; exact BB.out.2.2, fun h => by omega⟩
    haveI : Nonempty (Grew W2) := ⟨⟨W2, Below.refl _ _⟩⟩
    have z0 := grew_cell e0
    have z1 := grew_cell q0
    have z2 := grew_cell q1
    refine wp_region_quiet_grew (by kernel_rfl) (by kernel_rfl) ?_
    repeat (go_big_quiet_step (fail))
    refine wpQuiet_nil ?_
    rintro _ ⟨pq, rfl⟩
    (try clear A3)
    (try clear A2)
    (try clear A1)
    clear z0 z1 z2
    have hbq := below_tr hbr2 pq.bel
    all_goals go_wp2
    go_roundw
    case rel => exact ⟨1, by omega, by go_num, HK.out, hbq⟩
    case measure => simp [intOf]; omega
   | succ k =>
    obtain ⟨b', o', eb, d0, _⟩ := HM.out k (by omega)
    simp only [Option.some.injEq, Addr.mk.injEq, and_true] at eb
    obtain ⟨rfl, rfl⟩ := eb
    have g0 := keep_cell hbr2 d0
    obtain ⟨p0, hp0⟩ : ∃ p, p = (ms.getD k (0, 0)).1 := ⟨_, rfl⟩
    have HX0 : Hid _ := hp0
    rw [<- hp0] at g0
    clear d0 hp0
    by_cases a4 : (p : Int) <= (p0 : Int)
    ·have HR : Hid (fitB ms cs = false) := fitB_no (fun h => by have := (h.2.2.1 (k + 1) hkl).2.2.2 (by omega); rw [<- HX.out.1, Nat.add_sub_cancel, <- HX0.out] at this; omega)
     have A4 : decide ((p : Int) <= (p0 : Int)) = true := decide_eq_true a4
     haveI : Nonempty (Grew W2) := ⟨⟨W2, Below.refl _ _⟩⟩
     have z0 := grew_cell e0
     have z1 := grew_cell q0
     have z2 := grew_cell q1
     have z3 := grew_cell g0
     refine wp_region_quiet_grew (by kernel_rfl) (by kernel_rfl) ?_
     repeat (go_big_quiet_step (fail))
     refine wpQuiet_nil ?_
     rintro _ ⟨pq, rfl⟩
     (try clear A3)
     (try clear A2)
     (try clear A1)
     clear z0 z1 z2
     have hbq := below_tr hbr2 pq.bel
     all_goals go_wp2
     all_goals go_ret
     all_goals exact ⟨by rw [HR.out]; rfl, below_tr hb hbq⟩
    ·have HK : Hid (∀ j, j < k + 1 + 1 -> MapOk ms j) := fun j hj => by
      by_cases ej : j = k + 1
      ·subst ej
       exact ⟨by rw [<- HX.out.1]; exact Int.ofNat_lt.1 BB.out.1, by rw [<- HX.out.2]; exact BB.out.2.1, by rw [<- HX.out.2]; exact BB.out.2.2, fun h => by rw [<- HX.out.1, Nat.add_sub_cancel, <- HX0.out]; omega⟩
      ·exact HN.out j (by omega)
     have A4 : decide ((p : Int) <= (p0 : Int)) = false := decide_eq_false a4
     haveI : Nonempty (Grew W2) := ⟨⟨W2, Below.refl _ _⟩⟩
     have z0 := grew_cell e0
     have z1 := grew_cell q0
     have z2 := grew_cell q1
     have z3 := grew_cell g0
     refine wp_region_quiet_grew (by kernel_rfl) (by kernel_rfl) ?_
     repeat (go_big_quiet_step (fail))
     refine wpQuiet_nil ?_
     rintro _ ⟨pq, rfl⟩
     (try clear A3)
     (try clear A2)
     (try clear A1)
     clear z0 z1 z2
     have hbq := below_tr hbr2 pq.bel
     all_goals go_wp2
     go_roundw
     case rel => exact ⟨k + 1 + 1, by omega, by go_num, HK.out, hbq⟩
     case measure => simp [intOf]; omega
  ·obtain rfl : k = ms.length := by omega
   have HMS : Hid (∀ j, j < ms.length -> MapOk ms j) := HN.out
   clear HN HM
   go_wp2
   go_loopw [5] (fun i wr' => ∃ k : Nat, k <= cs.length /\ i = .int .i64 k /\ (∀ j, j < k -> CellOk ms cs j) /\ Below W.heap.size W wr') (fun i _ => cs.length - (intOf i).toNat)
   case atStart => exact ⟨0, Nat.zero_le _, rfl, fun j hj => by omega, hbr⟩
   case round =>
    clear e0 e1 hbr
    obtain ⟨k, hk2, rfl, hno, hbr⟩ := hrel
    have HN : Hid _ := hno
    clear hno
    have e0 := keep_cell hbr c0
    have e1 := keep_cell hbr c1
    rename_i wr'
    by_cases hkl : k < cs.length
    ·obtain ⟨b, o, rfl, d0, d1⟩ := HC.out k hkl
     have f0 := keep_cell hbr d0
     have f1 := keep_cell hbr d1
     obtain ⟨p, hp⟩ : ∃ p, p = (cs.getD k (0, 0)).1 := ⟨_, rfl⟩
     obtain ⟨r, hr⟩ : ∃ r, r = (cs.getD k (0, 0)).2 := ⟨_, rfl⟩
     have HX : Hid (p = (cs.getD k (0, 0)).1 /\ r = (cs.getD k (0, 0)).2) := ⟨hp, hr⟩
     rw [<- hp] at f0
     rw [<- hr] at f1
     clear hp hr d0 d1
     obtain ⟨W2, hW2, hb2, _, q0, q1, _, _⟩ := box2 wr (.int .u64 p) (.int .u64 r) 48
     have e0 := keep_cell hb2 e0
     have e1 := keep_cell hb2 e1
     have hbr2 := below_tr hbr hb2
     obtain ⟨q, hq⟩ : ∃ q, q = placeOf ms (p / 16384) := ⟨_, rfl⟩
     obtain ⟨pg, hpg⟩ : ∃ pg, pg = p / 16384 := ⟨_, rfl⟩
     obtain ⟨m8, hm8⟩ : ∃ m, m = p % 8 := ⟨_, rfl⟩
     have hpr : p < 18446744073709551616 := by rw [HX.out.1]; exact HRG.out k
     have hquo : IntKind.u64.wrap ((p : Int) / 16384) = (pg : Int) := by rw [IntKind.wrap_u64]; omega
     have hrem : ((p : Int)).tmod 8 = (m8 : Int) := by rw [Int.tmod_eq_emod_of_nonneg (by omega)]; omega
     have HQ : Hid (∀ pq : Grew W2, Calls Tryz.prog 32 #[.agg #[.slice ao ms.length cap, .slice (some ⟨b, o, none⟩) cs.length cap'], .int .u64 pg] pq.w fun e w'' => e = .returned (.int .i64 q) /\ ∃ q' : Grew W2, w'' = q'.w) := fun pq => by
      have h := Calls.grew (HP.out (p / 16384) pq.w (below_tr hb (below_tr hbr2 pq.bel)))
      rw [<- hq, <- hpg] at h
      exact h
     have HQ2 : Hid (q = placeOf ms (p / 16384)) := hq
     have HM8 : Hid (m8 = p % 8) := hm8
     clear hq hpr hpg hm8
     go_wp2
     by_cases a1 : m8 = 0
     case neg =>
      have HR : Hid (fitB ms cs = false) := fitB_no (fun h => by have := (h.2.2.2 k hkl).1; rw [<- HX.out.1] at this; have := HM8.out; omega)
      have A1 : ((m8 : Int) != 0) = true := by simp; omega
      clear a1
      haveI : Nonempty (Grew W2) := ⟨⟨W2, Below.refl _ _⟩⟩
      have z0 := grew_cell e0
      have z1 := grew_cell q0
      have z2 := grew_cell q1
      have z4 := grew_cell e1
      refine wp_region_quiet_grew (by kernel_rfl) (by kernel_rfl) ?_
      repeat (go_big_quiet_step (exact HQ.out _))
      refine wpQuiet_nil ?_
      rintro _ ⟨pq, rfl⟩
      clear z0 z1 z2 z4
      have hbq := below_tr hbr2 pq.bel
      all_goals go_wp2
      all_goals go_ret
      all_goals exact ⟨by rw [HR.out]; rfl, below_tr hb hbq⟩
     subst a1
     by_cases a2 : r = 0
     ·have HR : Hid (fitB ms cs = false) := fitB_no (fun h => by have := (h.2.2.2 k hkl).2.1; rw [<- HX.out.2] at this; exact this a2)
      subst a2
      haveI : Nonempty (Grew W2) := ⟨⟨W2, Below.refl _ _⟩⟩
      have z0 := grew_cell e0
      have z1 := grew_cell q0
      have z2 := grew_cell q1
      have z4 := grew_cell e1
      refine wp_region_quiet_grew (by kernel_rfl) (by kernel_rfl) ?_
      repeat (go_big_quiet_step (exact HQ.out _))
      refine wpQuiet_nil ?_
      rintro _ ⟨pq, rfl⟩
      clear z0 z1 z2 z4
      have hbq := below_tr hbr2 pq.bel
      all_goals go_wp2
      all_goals go_ret
      all_goals exact ⟨by rw [HR.out]; rfl, below_tr hb hbq⟩
     have A2 : (r == 0) = false := by simp [a2]
     have B2 : Hid (r ≠ 0) := a2
     clear a2
     cases k with
     | zero =>
      by_cases a5 : q < 0
      ·have HR : Hid (fitB ms cs = false) := fitB_no (fun h => by have := (h.2.2.2 0 hkl).2.2.2; rw [<- HX.out.1, <- HQ2.out] at this; omega)
       haveI : Nonempty (Grew W2) := ⟨⟨W2, Below.refl _ _⟩⟩
       have z0 := grew_cell e0
       have z1 := grew_cell q0
       have z2 := grew_cell q1
       have z4 := grew_cell e1
       refine wp_region_quiet_grew (by kernel_rfl) (by kernel_rfl) ?_
       repeat (go_big_quiet_step (exact HQ.out _))
       refine wpQuiet_nil ?_
       rintro _ ⟨pq, rfl⟩
       clear z0 z1 z2 z4
       have hbq := below_tr hbr2 pq.bel
       all_goals go_wp2
       all_goals go_ret
       all_goals exact ⟨by rw [HR.out]; rfl, below_tr hb hbq⟩
      ·have HK : Hid (∀ j, j < 1 -> CellOk ms cs j) := fun j hj => by
        obtain rfl : j = 0 := by omega
        exact ⟨by rw [<- HX.out.1]; exact HM8.out.symm, by rw [<- HX.out.2]; exact B2.out, fun h => by omega, by rw [<- HX.out.1, <- HQ2.out]; omega⟩
       haveI : Nonempty (Grew W2) := ⟨⟨W2, Below.refl _ _⟩⟩
       have z0 := grew_cell e0
       have z1 := grew_cell q0
       have z2 := grew_cell q1
       have z4 := grew_cell e1
       refine wp_region_quiet_grew (by kernel_rfl) (by kernel_rfl) ?_
       repeat (go_big_quiet_step (exact HQ.out _))
       refine wpQuiet_nil ?_
       rintro _ ⟨pq, rfl⟩
       clear z0 z1 z2 z4
       have hbq := below_tr hbr2 pq.bel
       all_goals go_wp2
       go_roundw
       case rel => exact ⟨1, by omega, by go_num, HK.out, hbq⟩
       case measure => simp [intOf]; omega
     | succ k =>
      obtain ⟨b', o', eb, d0, _⟩ := HC.out k (by omega)
      simp only [Option.some.injEq, Addr.mk.injEq, and_true] at eb
      obtain ⟨rfl, rfl⟩ := eb
      have g0 := keep_cell hbr2 d0
      obtain ⟨p0, hp0⟩ : ∃ p, p = (cs.getD k (0, 0)).1 := ⟨_, rfl⟩
      have HX0 : Hid _ := hp0
      rw [<- hp0] at g0
      clear d0 hp0
      by_cases a4 : (p : Int) <= (p0 : Int)
      ·have HR : Hid (fitB ms cs = false) := fitB_no (fun h => by have := (h.2.2.2 (k + 1) hkl).2.2.1 (by omega); rw [<- HX.out.1, Nat.add_sub_cancel, <- HX0.out] at this; omega)
       have A4 : decide ((p : Int) <= (p0 : Int)) = true := decide_eq_true a4
       haveI : Nonempty (Grew W2) := ⟨⟨W2, Below.refl _ _⟩⟩
       have z0 := grew_cell e0
       have z1 := grew_cell q0
       have z2 := grew_cell q1
       have z4 := grew_cell e1
       have z3 := grew_cell g0
       refine wp_region_quiet_grew (by kernel_rfl) (by kernel_rfl) ?_
       repeat (go_big_quiet_step (exact HQ.out _))
       refine wpQuiet_nil ?_
       rintro _ ⟨pq, rfl⟩
       clear z0 z1 z2 z4
       have hbq := below_tr hbr2 pq.bel
       all_goals go_wp2
       all_goals go_ret
       all_goals exact ⟨by rw [HR.out]; rfl, below_tr hb hbq⟩
      have A4 : decide ((p : Int) <= (p0 : Int)) = false := decide_eq_false a4
      by_cases a5 : q < 0
      ·have HR : Hid (fitB ms cs = false) := fitB_no (fun h => by have := (h.2.2.2 (k + 1) hkl).2.2.2; rw [<- HX.out.1, <- HQ2.out] at this; omega)
       haveI : Nonempty (Grew W2) := ⟨⟨W2, Below.refl _ _⟩⟩
       have z0 := grew_cell e0
       have z1 := grew_cell q0
       have z2 := grew_cell q1
       have z4 := grew_cell e1
       have z3 := grew_cell g0
       refine wp_region_quiet_grew (by kernel_rfl) (by kernel_rfl) ?_
       repeat (go_big_quiet_step (exact HQ.out _))
       refine wpQuiet_nil ?_
       rintro _ ⟨pq, rfl⟩
       clear z0 z1 z2 z4
       have hbq := below_tr hbr2 pq.bel
       all_goals go_wp2
       all_goals go_ret
       all_goals exact ⟨by rw [HR.out]; rfl, below_tr hb hbq⟩
      ·have HK : Hid (∀ j, j < k + 1 + 1 -> CellOk ms cs j) := fun j hj => by
        by_cases ej : j = k + 1
        ·subst ej
         exact ⟨by rw [<- HX.out.1]; exact HM8.out.symm, by rw [<- HX.out.2]; exact B2.out, fun h => by rw [<- HX.out.1, Nat.add_sub_cancel, <- HX0.out]; omega, by rw [<- HX.out.1, <- HQ2.out]; omega⟩
        ·exact HN.out j (by omega)
       haveI : Nonempty (Grew W2) := ⟨⟨W2, Below.refl _ _⟩⟩
       have z0 := grew_cell e0
       have z1 := grew_cell q0
       have z2 := grew_cell q1
       have z4 := grew_cell e1
       have z3 := grew_cell g0
       refine wp_region_quiet_grew (by kernel_rfl) (by kernel_rfl) ?_
       repeat (go_big_quiet_step (exact HQ.out _))
       refine wpQuiet_nil ?_
       rintro _ ⟨pq, rfl⟩
       clear z0 z1 z2 z4
       have hbq := below_tr hbr2 pq.bel
       all_goals go_wp2
       go_roundw
       case rel => exact ⟨k + 1 + 1, by omega, by go_num, HK.out, hbq⟩
       case measure => simp [intOf]; omega
    ·obtain rfl : k = cs.length := by omega
     have HR : Hid (fitB ms cs = true) := fitB_yes ⟨l1, l2, HMS.out, HN.out⟩
     go_wp2
     go_ret
     exact ⟨by rw [HR.out]; rfl, below_tr hb hbr⟩
def FitQ (ms cs : List (Nat × Int)) : Prop := ms.length <= 64 /\ cs.length <= 65536 /\ Srt ms /\ Srt cs /\ (∀ x ∈ ms, x.1 < 1125899906842624 /\ 0 <= x.2 /\ x.2 <= 7) /\ (∀ c ∈ cs, c.1 % 8 = 0 /\ c.2 ≠ 0 /\ ∃ x ∈ ms, x.1 = c.1 / 16384)
theorem getD_at {xs : List (Nat × Int)} {i : Nat} (h : i < xs.length) : xs.getD i (0, 0) = xs[i] := by simp [List.getD, h]
theorem srt_of {xs : List (Nat × Int)} (h : ∀ i, i < xs.length -> (0 < i -> (xs.getD (i - 1) (0, 0)).1 < (xs.getD i (0, 0)).1)) : Srt xs := by
 have step : ∀ (d i : Nat) (hj : i + d + 1 < xs.length), (xs.getD i (0, 0)).1 < (xs.getD (i + d + 1) (0, 0)).1 := by
  intro d
  induction d with
  | zero => intro i hj; have := h (i + 1) hj (by omega); simpa using this
  | succ d ih =>
   intro i hj
   have h1 := ih i (by omega)
   have h2 := h (i + (d + 1) + 1) hj (by omega)
   simp only [Nat.add_sub_cancel] at h2
   have e : i + (d + 1) = i + d + 1 := by omega
   rw [e] at h2 |-
   omega
 rw [Srt, List.pairwise_iff_getElem]
 intro i j hi hj hij
 have := step (j - i - 1) i (by omega)
 rw [show i + (j - i - 1) + 1 = j by omega, getD_at hi, getD_at hj] at this
 exact this
theorem srt_get {xs : List (Nat × Int)} (h : Srt xs) (i : Nat) (hi : i < xs.length) (h0 : 0 < i) : (xs.getD (i - 1) (0, 0)).1 < (xs.getD i (0, 0)).1 := by
 rw [Srt, List.pairwise_iff_getElem] at h
 rw [getD_at hi, getD_at (show i - 1 < xs.length by omega)]
 exact h (i - 1) i (by omega) hi (by omega)
theorem place_ge {ms : List (Nat × Int)} {p : Nat} : 0 <= placeOf ms p ↔ ∃ x ∈ ms, x.1 = p := by
 constructor
 ·intro h
  by_cases hn : ∃ x ∈ ms, x.1 = p
  ·exact hn
  ·rw [placeOf_none ms p (fun j hj e => hn ⟨ms[j], List.getElem_mem hj, e⟩)] at h
   omega
 ·rintro ⟨x, hx, rfl⟩
  unfold placeOf
  split
  ·omega
  ·rename_i h
   rw [List.findIdx?_eq_none_iff] at h
   have := h x hx
   simp at this
theorem fitP_iff {ms cs : List (Nat × Int)} : FitP ms cs ↔ FitQ ms cs := by
 constructor
 ·rintro ⟨h1, h2, h3, h4⟩
  refine ⟨h1, h2, srt_of (fun i hi => (h3 i hi).2.2.2), srt_of (fun i hi => (h4 i hi).2.2.1), ?_, ?_⟩
  ·intro x hx
   obtain ⟨i, hi, rfl⟩ := List.getElem_of_mem hx
   have h := h3 i hi
   rw [MapOk, getD_at hi] at h
   exact ⟨h.1, h.2.1, h.2.2.1⟩
  ·intro c hc
   obtain ⟨i, hi, rfl⟩ := List.getElem_of_mem hc
   have h := h4 i hi
   rw [CellOk, getD_at hi] at h
   exact ⟨h.1, h.2.1, place_ge.1 h.2.2.2⟩
 ·rintro ⟨h1, h2, h3, h4, h5, h6⟩
  refine ⟨h1, h2, fun i hi => ?_, fun i hi => ?_⟩
  ·have h := h5 _ (List.getElem_mem hi)
   exact ⟨by rw [getD_at hi]; exact h.1, by rw [getD_at hi]; exact h.2.1, by rw [getD_at hi]; exact h.2.2, srt_get h3 i hi⟩
  ·have h := h6 _ (List.getElem_mem hi)
   exact ⟨by rw [getD_at hi]; exact h.1, by rw [getD_at hi]; exact h.2.1, srt_get h4 i hi, by rw [getD_at hi]; exact place_ge.2 h.2.2⟩
theorem fitB_q {ms cs : List (Nat × Int)} (h : FitQ ms cs) : fitB ms cs = true := fitB_yes (fitP_iff.2 h)
theorem q_fitB {ms cs : List (Nat × Int)} (h : fitB ms cs = true) : FitQ ms cs := by
 by_cases c : FitP ms cs
 ·exact fitP_iff.1 c
 ·rw [fitB_no c] at h
  cases h
theorem lo_mem {xs : List (Nat × Int)} {a : Nat} {x : Nat × Int} : x ∈ lo xs a ↔ x ∈ xs /\ x.1 < a := by simp [lo]
theorem hi_mem {xs : List (Nat × Int)} {a : Nat} {x : Nat × Int} : x ∈ hi xs a ↔ x ∈ xs /\ a < x.1 := by simp [hi]
theorem mid_mem {xs : List (Nat × Int)} {a b : Nat} {x : Nat × Int} : x ∈ mid xs a b ↔ x ∈ xs /\ a <= x.1 /\ x.1 <= b := by simp [mid]
theorem lo_len (xs : List (Nat × Int)) (a : Nat) : (lo xs a).length <= xs.length := List.length_filter_le _ _
theorem srt_eq {xs : List (Nat × Int)} (h : Srt xs) {x y : Nat × Int} (hx : x ∈ xs) (hy : y ∈ xs) (e : x.1 = y.1) : x = y := by
 obtain ⟨i, hi, rfl⟩ := List.getElem_of_mem hx
 obtain ⟨j, hj, rfl⟩ := List.getElem_of_mem hy
 rw [Srt, List.pairwise_iff_getElem] at h
 rcases Nat.lt_trichotomy i j with c | c | c
 ·have := h i j hi hj c; omega
 ·subst c; rfl
 ·have := h j i hj hi c; omega
theorem find_mem {xs : List (Nat × Int)} (h : Srt xs) {x : Nat × Int} (hx : x ∈ xs) : xs.find? (fun y => y.1 == x.1) = some x := by
 cases hf : xs.find? (fun y => y.1 == x.1) with
 | none =>
  rw [List.find?_eq_none] at hf
  have := hf x hx
  simp at this
 | some y =>
  have h1 := List.mem_of_find?_eq_some hf
  have h2 := List.find?_some hf
  simp at h2
  rw [srt_eq h h1 hx h2]
theorem find_none {xs : List (Nat × Int)} {p : Nat} (h : ∀ x ∈ xs, x.1 ≠ p) : xs.find? (fun y => y.1 == p) = none := by
 rw [List.find?_eq_none]
 intro x hx
 simpa using h x hx
end Go.Proofs.YtimfipkbddpdmaaGreatDoor.Gm
