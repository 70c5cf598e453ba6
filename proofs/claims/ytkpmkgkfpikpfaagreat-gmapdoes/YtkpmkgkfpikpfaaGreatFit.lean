/- What is proved here: which memories can be, by the document. -/
import Derived.Test.YtkpmkgkfpikpfaaGreatHeld
import Derived.Test.YtkpmkgkfpikpfaaGreatSpan
namespace Go.Proofs.YtkpmkgkfpikpfaaGreat
open Go.RowKit Go.BigFrame
set_option linter.unusedVariables false
def MapOk (ms : List (Nat × Int)) (i : Nat) : Prop := (ms.getD i (0, 0)).1 < 1125899906842624 ∧ 0 ≤ (ms.getD i (0, 0)).2 ∧ (ms.getD i (0, 0)).2 ≤ 7 ∧ (0 < i → (ms.getD (i - 1) (0, 0)).1 < (ms.getD i (0, 0)).1)
def CellOk (ms cs : List (Nat × Int)) (i : Nat) : Prop := (cs.getD i (0, 0)).1 % 8 = 0 ∧ (cs.getD i (0, 0)).2 ≠ 0 ∧ (0 < i → (cs.getD (i - 1) (0, 0)).1 < (cs.getD i (0, 0)).1) ∧ 0 ≤ placeOf ms ((cs.getD i (0, 0)).1 / 16384)
def FitP (ms cs : List (Nat × Int)) : Prop := ms.length ≤ 64 ∧ cs.length ≤ 65536 ∧ (∀ i, i < ms.length → MapOk ms i) ∧ (∀ i, i < cs.length → CellOk ms cs i)
open Classical in
noncomputable def fitB (ms cs : List (Nat × Int)) : Bool := decide (FitP ms cs)
theorem fitB_no {ms cs : List (Nat × Int)} (h : ¬ FitP ms cs) : fitB ms cs = false := by simp [fitB, h]
theorem fitB_yes {ms cs : List (Nat × Int)} (h : FitP ms cs) : fitB ms cs = true := by simp [fitB, h]
set_option maxHeartbeats 2000000 in
theorem rfit10 (vm vc : Value) (ms cs : List (Nat × Int)) (w : World) (hm : Sl .i64 w vm ms) (hc : Sl .u64 w vc cs) (hrg : ∀ i, (cs.getD i (0, 0)).1 < 18446744073709551616) :
  Calls Tryz.prog 43 #[.agg #[vm, vc]] w fun e w' => e = .returned (.bool (fitB ms cs)) ∧ Below w.heap.size w w' := by
 obtain ⟨W, hW, hb, hsz, c0, c1, _, _⟩ := box2 w vm vc 25
 have HP : Hid (∀ p w', Below w.heap.size w w' → Calls Tryz.prog 44 #[.agg #[vm, vc], .int .u64 ((p : Nat) : Int)] w' fun e w'' => e = .returned (.int .i64 (placeOf ms p)) ∧ Below w'.heap.size w' w'') := fun p w' hb' => place33 vm vc ms p w' (hm.keep hb') (by obtain ⟨a, q, h, _⟩ := hc; exact ⟨_, _, _, h⟩)
 obtain ⟨ao, cap, rfl, h1, h2, h3, h4⟩ := hm
 obtain ⟨ao', cap', rfl, k1, k2, k3, k4⟩ := hc
 have HM : Hid (∀ i, i < ms.length → ∃ b o, ao = some ⟨b, o, none⟩ ∧ W.cell? ⟨b, o + i * 2, none⟩ = some (.int .u64 ((ms.getD i (0, 0)).1 : Int)) ∧ W.cell? ⟨b, o + i * 2 + 1, none⟩ = some (.int .i64 (ms.getD i (0, 0)).2)) := fun i hi => by
  obtain ⟨b, o, e, d0, d1⟩ := h4 i hi
  exact ⟨b, o, e, by simpa [hi] using keep_cell hb d0, by simpa [hi] using keep_cell hb d1⟩
 have HC : Hid (∀ i, i < cs.length → ∃ b o, ao' = some ⟨b, o, none⟩ ∧ W.cell? ⟨b, o + i * 2, none⟩ = some (.int .u64 ((cs.getD i (0, 0)).1 : Int)) ∧ W.cell? ⟨b, o + i * 2 + 1, none⟩ = some (.int .u64 (cs.getD i (0, 0)).2)) := fun i hi => by
  obtain ⟨b, o, e, d0, d1⟩ := k4 i hi
  exact ⟨b, o, e, by simpa [hi] using keep_cell hb d0, by simpa [hi] using keep_cell hb d1⟩
 have HRG : Hid _ := hrg
 clear h3 h4 k3 k4 hrg
 by_cases l1 : ms.length ≤ 64
 case neg =>
  have HR : Hid (fitB ms cs = false) := fitB_no (fun h => l1 h.1)
  clear HM HC HP
  go_enter Tryz.func43, Tryz.ntmps43
  go_wp2
  go_ret
  exact ⟨by rw [HR.out]; rfl, hb⟩
 by_cases l2 : cs.length ≤ 65536
 case neg =>
  have HR : Hid (fitB ms cs = false) := fitB_no (fun h => l2 h.2.1)
  clear HM HC HP
  go_enter Tryz.func43, Tryz.ntmps43
  go_wp2
  go_ret
  exact ⟨by rw [HR.out]; rfl, hb⟩
 go_enter Tryz.func43, Tryz.ntmps43
 go_wp2
 go_loopw [3] (fun i wr => ∃ k : Nat, k ≤ ms.length ∧ i = .int .i64 (k : Int) ∧ (∀ j, j < k → MapOk ms j) ∧ Below W.heap.size W wr) (fun i _ => ms.length - (intOf i).toNat)
 case atStart => exact ⟨0, Nat.zero_le _, rfl, fun j hj => by omega, Below.refl _ _⟩
 case round =>
  obtain ⟨k, hk, rfl, hno, hbr⟩ := hrel
  have HN : Hid _ := hno
  clear hno
  have e0 := keep_cell hbr c0
  have e1 := keep_cell hbr c1
  by_cases hkl : k < ms.length
  ·obtain ⟨b, o, rfl, d0, d1⟩ := HM.out k hkl
   have f0 := keep_cell hbr d0
   have f1 := keep_cell hbr d1
   obtain ⟨p, hp⟩ : ∃ p, p = (ms.getD k (0, 0)).1 := ⟨_, rfl⟩
   obtain ⟨r, hr⟩ : ∃ r, r = (ms.getD k (0, 0)).2 := ⟨_, rfl⟩
   have HX : Hid (p = (ms.getD k (0, 0)).1 ∧ r = (ms.getD k (0, 0)).2) := ⟨hp, hr⟩
   rw [← hp] at f0
   rw [← hr] at f1
   clear hp hr d0 d1
   obtain ⟨W2, hW2, hb2, _, q0, q1, _, _⟩ := box2 wr (.int .u64 (p : Int)) (.int .i64 r) 77
   have e0 := keep_cell hb2 e0
   have hbr2 := below_tr hbr hb2
   go_wp2
   by_cases a1 : 1125899906842624 ≤ (p : Int)
   ·have HR : Hid (fitB ms cs = false) := fitB_no (fun h => by have := (h.2.2.1 k hkl).1; rw [← HX.out.1] at this; omega)
    have A1 : decide (1125899906842624 ≤ (p : Int)) = true := decide_eq_true a1
    clear a1
    haveI : Nonempty (Grew W2) := ⟨⟨W2, Below.refl _ _⟩⟩
    have z0 := grew_cell e0
    have z1 := grew_cell q0
    have z2 := grew_cell q1
    refine wp_region_quiet_grew (by kernel_rfl) (by kernel_rfl) ?_
    repeat (go_big_quiet_step (fail))
    refine wpQuiet_nil ?_
    rintro _ ⟨pq, rfl⟩
    (try clear A3)
    (try clear A2)
    (try clear A1)
    clear z0 z1 z2
    have hbq := below_tr hbr2 pq.bel
    all_goals go_wp2
    all_goals go_ret
    all_goals exact ⟨by rw [HR.out]; rfl, below_tr hb hbq⟩
   have A1 : decide (1125899906842624 ≤ (p : Int)) = false := decide_eq_false a1
   have B1 : Hid (¬ (1125899906842624 ≤ (p : Int))) := a1
   clear a1
   by_cases a2 : r < 0
   ·have HR : Hid (fitB ms cs = false) := fitB_no (fun h => by have := (h.2.2.1 k hkl).2.1; rw [← HX.out.2] at this; omega)
    have A2 : decide (r < 0) = true := decide_eq_true a2
    clear a2
    haveI : Nonempty (Grew W2) := ⟨⟨W2, Below.refl _ _⟩⟩
    have z0 := grew_cell e0
    have z1 := grew_cell q0
    have z2 := grew_cell q1
    refine wp_region_quiet_grew (by kernel_rfl) (by kernel_rfl) ?_
    repeat (go_big_quiet_step (fail))
    refine wpQuiet_nil ?_
    rintro _ ⟨pq, rfl⟩
    (try clear A3)
    (try clear A2)
    (try clear A1)
    clear z0 z1 z2
    have hbq := below_tr hbr2 pq.bel
    all_goals go_wp2
    all_goals go_ret
    all_goals exact ⟨by rw [HR.out]; rfl, below_tr hb hbq⟩
   have A2 : decide (r < 0) = false := decide_eq_false a2
   have B2 : Hid (¬ (r < 0)) := a2
   clear a2
   by_cases a3 : 7 < r
   ·have HR : Hid (fitB ms cs = false) := fitB_no (fun h => by have := (h.2.2.1 k hkl).2.2.1; rw [← HX.out.2] at this; omega)
    have A3 : decide (7 < r) = true := decide_eq_true a3
    clear a3
    haveI : Nonempty (Grew W2) := ⟨⟨W2, Below.refl _ _⟩⟩
    have z0 := grew_cell e0
    have z1 := grew_cell q0
    have z2 := grew_cell q1
    refine wp_region_quiet_grew (by kernel_rfl) (by kernel_rfl) ?_
    repeat (go_big_quiet_step (fail))
    refine wpQuiet_nil ?_
    rintro _ ⟨pq, rfl⟩
    (try clear A3)
    (try clear A2)
    (try clear A1)
    clear z0 z1 z2
    have hbq := below_tr hbr2 pq.bel
    all_goals go_wp2
    all_goals go_ret
    all_goals exact ⟨by rw [HR.out]; rfl, below_tr hb hbq⟩
   have A3 : decide (7 < r) = false := decide_eq_false a3
   have B3 : Hid (¬ (7 < r)) := a3
   clear a3
   have BB : Hid ((p : Int) < 1125899906842624 ∧ 0 ≤ r ∧ r ≤ 7) := ⟨by have := B1.out; omega, by have := B2.out; omega, by have := B3.out; omega⟩
   cases k with
   | zero =>
    have HK : Hid (∀ j, j < 1 → MapOk ms j) := fun j hj => by
     obtain rfl : j = 0 := by omega
     exact ⟨by rw [← HX.out.1]; exact Int.ofNat_lt.1 BB.out.1, by rw [← HX.out.2]; exact BB.out.2.1, by rw [← HX.out.2]; exact BB.out.2.2, fun h => by omega⟩
    haveI : Nonempty (Grew W2) := ⟨⟨W2, Below.refl _ _⟩⟩
    have z0 := grew_cell e0
    have z1 := grew_cell q0
    have z2 := grew_cell q1
    refine wp_region_quiet_grew (by kernel_rfl) (by kernel_rfl) ?_
    repeat (go_big_quiet_step (fail))
    refine wpQuiet_nil ?_
    rintro _ ⟨pq, rfl⟩
    (try clear A3)
    (try clear A2)
    (try clear A1)
    clear z0 z1 z2
    have hbq := below_tr hbr2 pq.bel
    all_goals go_wp2
    go_roundw
    case rel => exact ⟨1, by omega, by go_num, HK.out, hbq⟩
    case measure => simp [intOf]; omega
   | succ k =>
    obtain ⟨b', o', eb, d0, _⟩ := HM.out k (by omega)
    simp only [Option.some.injEq, Addr.mk.injEq, and_true] at eb
    obtain ⟨rfl, rfl⟩ := eb
    have g0 := keep_cell hbr2 d0
    obtain ⟨p0, hp0⟩ : ∃ p, p = (ms.getD k (0, 0)).1 := ⟨_, rfl⟩
    have HX0 : Hid _ := hp0
    rw [← hp0] at g0
    clear d0 hp0
    by_cases a4 : (p : Int) ≤ (p0 : Int)
    ·have HR : Hid (fitB ms cs = false) := fitB_no (fun h => by have := (h.2.2.1 (k + 1) hkl).2.2.2 (by omega); rw [← HX.out.1, Nat.add_sub_cancel, ← HX0.out] at this; omega)
     have A4 : decide ((p : Int) ≤ (p0 : Int)) = true := decide_eq_true a4
     haveI : Nonempty (Grew W2) := ⟨⟨W2, Below.refl _ _⟩⟩
     have z0 := grew_cell e0
     have z1 := grew_cell q0
     have z2 := grew_cell q1
     have z3 := grew_cell g0
     refine wp_region_quiet_grew (by kernel_rfl) (by kernel_rfl) ?_
     repeat (go_big_quiet_step (fail))
     refine wpQuiet_nil ?_
     rintro _ ⟨pq, rfl⟩
     (try clear A3)
     (try clear A2)
     (try clear A1)
     clear z0 z1 z2
     have hbq := below_tr hbr2 pq.bel
     all_goals go_wp2
     all_goals go_ret
     all_goals exact ⟨by rw [HR.out]; rfl, below_tr hb hbq⟩
    ·have HK : Hid (∀ j, j < k + 1 + 1 → MapOk ms j) := fun j hj => by
      by_cases ej : j = k + 1
      ·subst ej
       exact ⟨by rw [← HX.out.1]; exact Int.ofNat_lt.1 BB.out.1, by rw [← HX.out.2]; exact BB.out.2.1, by rw [← HX.out.2]; exact BB.out.2.2, fun h => by rw [← HX.out.1, Nat.add_sub_cancel, ← HX0.out]; omega⟩
      ·exact HN.out j (by omega)
     have A4 : decide ((p : Int) ≤ (p0 : Int)) = false := decide_eq_false a4
     haveI : Nonempty (Grew W2) := ⟨⟨W2, Below.refl _ _⟩⟩
     have z0 := grew_cell e0
     have z1 := grew_cell q0
     have z2 := grew_cell q1
     have z3 := grew_cell g0
     refine wp_region_quiet_grew (by kernel_rfl) (by kernel_rfl) ?_
     repeat (go_big_quiet_step (fail))
     refine wpQuiet_nil ?_
     rintro _ ⟨pq, rfl⟩
     (try clear A3)
     (try clear A2)
     (try clear A1)
     clear z0 z1 z2
     have hbq := below_tr hbr2 pq.bel
     all_goals go_wp2
     go_roundw
     case rel => exact ⟨k + 1 + 1, by omega, by go_num, HK.out, hbq⟩
     case measure => simp [intOf]; omega
  ·obtain rfl : k = ms.length := by omega
   have HMS : Hid (∀ j, j < ms.length → MapOk ms j) := HN.out
   clear HN HM
   go_wp2
   go_loopw [5] (fun i wr' => ∃ k : Nat, k ≤ cs.length ∧ i = .int .i64 (k : Int) ∧ (∀ j, j < k → CellOk ms cs j) ∧ Below W.heap.size W wr') (fun i _ => cs.length - (intOf i).toNat)
   case atStart => exact ⟨0, Nat.zero_le _, rfl, fun j hj => by omega, hbr⟩
   case round =>
    clear e0 e1 hbr
    obtain ⟨k, hk2, rfl, hno, hbr⟩ := hrel
    have HN : Hid _ := hno
    clear hno
    have e0 := keep_cell hbr c0
    have e1 := keep_cell hbr c1
    rename_i wr'
    by_cases hkl : k < cs.length
    ·obtain ⟨b, o, rfl, d0, d1⟩ := HC.out k hkl
     have f0 := keep_cell hbr d0
     have f1 := keep_cell hbr d1
     obtain ⟨p, hp⟩ : ∃ p, p = (cs.getD k (0, 0)).1 := ⟨_, rfl⟩
     obtain ⟨r, hr⟩ : ∃ r, r = (cs.getD k (0, 0)).2 := ⟨_, rfl⟩
     have HX : Hid (p = (cs.getD k (0, 0)).1 ∧ r = (cs.getD k (0, 0)).2) := ⟨hp, hr⟩
     rw [← hp] at f0
     rw [← hr] at f1
     clear hp hr d0 d1
     obtain ⟨W2, hW2, hb2, _, q0, q1, _, _⟩ := box2 wr (.int .u64 (p : Int)) (.int .u64 r) 82
     have e0 := keep_cell hb2 e0
     have e1 := keep_cell hb2 e1
     have hbr2 := below_tr hbr hb2
     obtain ⟨q, hq⟩ : ∃ q, q = placeOf ms (p / 16384) := ⟨_, rfl⟩
     obtain ⟨pg, hpg⟩ : ∃ pg, pg = p / 16384 := ⟨_, rfl⟩
     obtain ⟨m8, hm8⟩ : ∃ m, m = p % 8 := ⟨_, rfl⟩
     have hpr : p < 18446744073709551616 := by rw [HX.out.1]; exact HRG.out k
     have hquo : IntKind.u64.wrap ((p : Int) / 16384) = (pg : Int) := by rw [IntKind.wrap_u64]; omega
     have hrem : ((p : Int)).tmod 8 = (m8 : Int) := by rw [Int.tmod_eq_emod_of_nonneg (by omega)]; omega
     have HQ : Hid (∀ pq : Grew W2, Calls Tryz.prog 44 #[.agg #[.slice ao ms.length cap, .slice (some ⟨b, o, none⟩) cs.length cap'], .int .u64 (pg : Int)] pq.w fun e w'' => e = .returned (.int .i64 q) ∧ ∃ q' : Grew W2, w'' = q'.w) := fun pq => by
      have h := Calls.grew (HP.out (p / 16384) pq.w (below_tr hb (below_tr hbr2 pq.bel)))
      rw [← hq, ← hpg] at h
      exact h
     have HQ2 : Hid (q = placeOf ms (p / 16384)) := hq
     have HM8 : Hid (m8 = p % 8) := hm8
     clear hq hpr hpg hm8
     go_wp2
     by_cases a1 : m8 = 0
     case neg =>
      have HR : Hid (fitB ms cs = false) := fitB_no (fun h => by have := (h.2.2.2 k hkl).1; rw [← HX.out.1] at this; have := HM8.out; omega)
      have A1 : ((m8 : Int) != 0) = true := by simp; omega
      clear a1
      haveI : Nonempty (Grew W2) := ⟨⟨W2, Below.refl _ _⟩⟩
      have z0 := grew_cell e0
      have z1 := grew_cell q0
      have z2 := grew_cell q1
      have z4 := grew_cell e1
      refine wp_region_quiet_grew (by kernel_rfl) (by kernel_rfl) ?_
      repeat (go_big_quiet_step (exact HQ.out _))
      refine wpQuiet_nil ?_
      rintro _ ⟨pq, rfl⟩
      clear z0 z1 z2 z4
      have hbq := below_tr hbr2 pq.bel
      all_goals go_wp2
      all_goals go_ret
      all_goals exact ⟨by rw [HR.out]; rfl, below_tr hb hbq⟩
     subst a1
     by_cases a2 : r = 0
     ·have HR : Hid (fitB ms cs = false) := fitB_no (fun h => by have := (h.2.2.2 k hkl).2.1; rw [← HX.out.2] at this; exact this a2)
      subst a2
      haveI : Nonempty (Grew W2) := ⟨⟨W2, Below.refl _ _⟩⟩
      have z0 := grew_cell e0
      have z1 := grew_cell q0
      have z2 := grew_cell q1
      have z4 := grew_cell e1
      refine wp_region_quiet_grew (by kernel_rfl) (by kernel_rfl) ?_
      repeat (go_big_quiet_step (exact HQ.out _))
      refine wpQuiet_nil ?_
      rintro _ ⟨pq, rfl⟩
      clear z0 z1 z2 z4
      have hbq := below_tr hbr2 pq.bel
      all_goals go_wp2
      all_goals go_ret
      all_goals exact ⟨by rw [HR.out]; rfl, below_tr hb hbq⟩
     have A2 : (r == 0) = false := by simp [a2]
     have B2 : Hid (r ≠ 0) := a2
     clear a2
     cases k with
     | zero =>
      by_cases a5 : q < 0
      ·have HR : Hid (fitB ms cs = false) := fitB_no (fun h => by have := (h.2.2.2 0 hkl).2.2.2; rw [← HX.out.1, ← HQ2.out] at this; omega)
       haveI : Nonempty (Grew W2) := ⟨⟨W2, Below.refl _ _⟩⟩
       have z0 := grew_cell e0
       have z1 := grew_cell q0
       have z2 := grew_cell q1
       have z4 := grew_cell e1
       refine wp_region_quiet_grew (by kernel_rfl) (by kernel_rfl) ?_
       repeat (go_big_quiet_step (exact HQ.out _))
       refine wpQuiet_nil ?_
       rintro _ ⟨pq, rfl⟩
       clear z0 z1 z2 z4
       have hbq := below_tr hbr2 pq.bel
       all_goals go_wp2
       all_goals go_ret
       all_goals exact ⟨by rw [HR.out]; rfl, below_tr hb hbq⟩
      ·have HK : Hid (∀ j, j < 1 → CellOk ms cs j) := fun j hj => by
        obtain rfl : j = 0 := by omega
        exact ⟨by rw [← HX.out.1]; exact HM8.out.symm, by rw [← HX.out.2]; exact B2.out, fun h => by omega, by rw [← HX.out.1, ← HQ2.out]; omega⟩
       haveI : Nonempty (Grew W2) := ⟨⟨W2, Below.refl _ _⟩⟩
       have z0 := grew_cell e0
       have z1 := grew_cell q0
       have z2 := grew_cell q1
       have z4 := grew_cell e1
       refine wp_region_quiet_grew (by kernel_rfl) (by kernel_rfl) ?_
       repeat (go_big_quiet_step (exact HQ.out _))
       refine wpQuiet_nil ?_
       rintro _ ⟨pq, rfl⟩
       clear z0 z1 z2 z4
       have hbq := below_tr hbr2 pq.bel
       all_goals go_wp2
       go_roundw
       case rel => exact ⟨1, by omega, by go_num, HK.out, hbq⟩
       case measure => simp [intOf]; omega
     | succ k =>
      obtain ⟨b', o', eb, d0, _⟩ := HC.out k (by omega)
      simp only [Option.some.injEq, Addr.mk.injEq, and_true] at eb
      obtain ⟨rfl, rfl⟩ := eb
      have g0 := keep_cell hbr2 d0
      obtain ⟨p0, hp0⟩ : ∃ p, p = (cs.getD k (0, 0)).1 := ⟨_, rfl⟩
      have HX0 : Hid _ := hp0
      rw [← hp0] at g0
      clear d0 hp0
      by_cases a4 : (p : Int) ≤ (p0 : Int)
      ·have HR : Hid (fitB ms cs = false) := fitB_no (fun h => by have := (h.2.2.2 (k + 1) hkl).2.2.1 (by omega); rw [← HX.out.1, Nat.add_sub_cancel, ← HX0.out] at this; omega)
       have A4 : decide ((p : Int) ≤ (p0 : Int)) = true := decide_eq_true a4
       haveI : Nonempty (Grew W2) := ⟨⟨W2, Below.refl _ _⟩⟩
       have z0 := grew_cell e0
       have z1 := grew_cell q0
       have z2 := grew_cell q1
       have z4 := grew_cell e1
       have z3 := grew_cell g0
       refine wp_region_quiet_grew (by kernel_rfl) (by kernel_rfl) ?_
       repeat (go_big_quiet_step (exact HQ.out _))
       refine wpQuiet_nil ?_
       rintro _ ⟨pq, rfl⟩
       clear z0 z1 z2 z4
       have hbq := below_tr hbr2 pq.bel
       all_goals go_wp2
       all_goals go_ret
       all_goals exact ⟨by rw [HR.out]; rfl, below_tr hb hbq⟩
      have A4 : decide ((p : Int) ≤ (p0 : Int)) = false := decide_eq_false a4
      by_cases a5 : q < 0
      ·have HR : Hid (fitB ms cs = false) := fitB_no (fun h => by have := (h.2.2.2 (k + 1) hkl).2.2.2; rw [← HX.out.1, ← HQ2.out] at this; omega)
       haveI : Nonempty (Grew W2) := ⟨⟨W2, Below.refl _ _⟩⟩
       have z0 := grew_cell e0
       have z1 := grew_cell q0
       have z2 := grew_cell q1
       have z4 := grew_cell e1
       have z3 := grew_cell g0
       refine wp_region_quiet_grew (by kernel_rfl) (by kernel_rfl) ?_
       repeat (go_big_quiet_step (exact HQ.out _))
       refine wpQuiet_nil ?_
       rintro _ ⟨pq, rfl⟩
       clear z0 z1 z2 z4
       have hbq := below_tr hbr2 pq.bel
       all_goals go_wp2
       all_goals go_ret
       all_goals exact ⟨by rw [HR.out]; rfl, below_tr hb hbq⟩
      ·have HK : Hid (∀ j, j < k + 1 + 1 → CellOk ms cs j) := fun j hj => by
        by_cases ej : j = k + 1
        ·subst ej
         exact ⟨by rw [← HX.out.1]; exact HM8.out.symm, by rw [← HX.out.2]; exact B2.out, fun h => by rw [← HX.out.1, Nat.add_sub_cancel, ← HX0.out]; omega, by rw [← HX.out.1, ← HQ2.out]; omega⟩
        ·exact HN.out j (by omega)
       haveI : Nonempty (Grew W2) := ⟨⟨W2, Below.refl _ _⟩⟩
       have z0 := grew_cell e0
       have z1 := grew_cell q0
       have z2 := grew_cell q1
       have z4 := grew_cell e1
       have z3 := grew_cell g0
       refine wp_region_quiet_grew (by kernel_rfl) (by kernel_rfl) ?_
       repeat (go_big_quiet_step (exact HQ.out _))
       refine wpQuiet_nil ?_
       rintro _ ⟨pq, rfl⟩
       clear z0 z1 z2 z4
       have hbq := below_tr hbr2 pq.bel
       all_goals go_wp2
       go_roundw
       case rel => exact ⟨k + 1 + 1, by omega, by go_num, HK.out, hbq⟩
       case measure => simp [intOf]; omega
    ·obtain rfl : k = cs.length := by omega
     have HR : Hid (fitB ms cs = true) := fitB_yes ⟨l1, l2, HMS.out, HN.out⟩
     go_wp2
     go_ret
     exact ⟨by rw [HR.out]; rfl, below_tr hb hbr⟩
end Go.Proofs.YtkpmkgkfpikpfaaGreat
