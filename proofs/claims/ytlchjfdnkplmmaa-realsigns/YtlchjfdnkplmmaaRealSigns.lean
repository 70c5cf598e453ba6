/- Proved: for every a and b the law RealSigns answers true (turning both signs turns the sign of a sum, a product keeps its own, the lesser one of two turned ones is the greater one turned); no conditions. -/
import Derived.Test.YtlchjfdnkplmmaaRows
import Derived.Test.YtlchjfdnkplmmaaLaws
import Derived.WalkKit
import Derived.ProofKit
import Derived.OpenShut
import Derived.ShutString
namespace Go.Proofs.Ytlchjfdnkplmmaa.realSigns
open Go.ChangeShapes Go.WideShapes Go.ChangeAt Go.RowKit
open Go.ChangeMaps (open_string shut_string)
set_option linter.unusedVariables false

theorem own : ownKnob Try.prog.godebug = none := by kernel_rfl

set_option maxHeartbeats 1000000 in
theorem walk (a0 : Int) (a1 : Int) (w0 : (Lit.int .u64 a0).wf = true) (w1 : (Lit.int .u64 a1).wf = true) (w : World) :
    Calls Try.prog 8 #[.int .u64 a0, .int .u64 a1] w fun e w' => e = .returned (.bool true) ∧ Below w.heap.size w w' := by
  obtain ⟨b0, b0'⟩ := bounds_u64 w0
  obtain ⟨b1, b1'⟩ := bounds_u64 w1
  obtain ⟨a, rfl⟩ := Int.eq_ofNat_of_zero_le b0
  obtain ⟨b, rfl⟩ := Int.eq_ofNat_of_zero_le b1
  have ha : a < 18446744073709551616 := by omega
  have hb : b < 18446744073709551616 := by omega
  clear w0 w1 b0 b1 b0' b1'
  have AW : Hid (∀ w, Calls Try.prog 13 #[] w fun e w' => e = .returned (.bool true) ∧ Below w.heap.size w w') := awake_any
  have hx := xor_flip a ha
  have hy := xor_flip b hb
  have hfa := flip_lt a ha
  have hfb := flip_lt b hb
  have s1 := add_any a b ha hb
  have s2 := add_any (flip a) (flip b) hfa hfb
  by_cases hn : isNone a ∨ isNone b
  · have hn' : isNone (flip a) ∨ isNone (flip b) := hn.imp (flip_none a ha).2 (flip_none b hb).2
    rw [op_none .add (by simp) a b hn] at s1
    rw [op_none .add (by simp) _ _ hn'] at s2
    have A1 : Hid (∀ w, Calls Try.prog 14 #[.int .u64 (a : Int), .int .u64 (b : Int)] w fun e w' => e = .returned (.int .u64 9221120237041090560) ∧ Below w.heap.size w w') := s1
    have A2 : Hid (∀ w, Calls Try.prog 14 #[.int .u64 ((flip a : Nat) : Int), .int .u64 ((flip b : Nat) : Int)] w fun e w' => e = .returned (.int .u64 9221120237041090560) ∧ Below w.heap.size w w') := s2
    by_cases h1 : isNone a
    · have C1 : Hid (∀ w, Calls Try.prog 10 #[.int .u64 (a : Int)] w fun e w' => e = .returned (.int .i64 4) ∧ w' = w) := rclass_none a ha h1
      clear s1 s2 hn hn' h1 ha hb hfa hfb
      generalize flip a = fa at *
      generalize flip b = fb at *
      go_enter Try.func8, Try.ntmps8
      go_wp2_with fail
      refine (A1.out _).mono ?_
      rintro e w1 ⟨rfl, c⟩
      have d := c
      clear c
      go_wp2_with fail
      refine (A2.out _).mono ?_
      rintro e w2 ⟨rfl, c⟩
      replace d := d.trans (c.mono d.size)
      clear c
      go_wp2_with fail
      refine (C1.out _).mono ?_
      rintro e w3 ⟨rfl, rfl⟩
      go_wp2_with fail
      refine (AW.out _).mono ?_
      rintro e w4 ⟨rfl, c⟩
      replace d := d.trans (c.mono d.size)
      clear c
      go_wp2
      go_ret
      exact ⟨rfl, d⟩
    · have h2 := hn.resolve_left h1
      have C1 : Hid (∀ w, Calls Try.prog 10 #[.int .u64 (a : Int)] w fun e w' => e = .returned (.int .i64 (classN a : Nat)) ∧ w' = w) := rclass_any a ha
      have k1 := class_beq a h1
      have C2 : Hid (∀ w, Calls Try.prog 10 #[.int .u64 (b : Int)] w fun e w' => e = .returned (.int .i64 4) ∧ w' = w) := rclass_none b hb h2
      clear s1 s2 hn hn' h1 h2 ha hb hfa hfb
      generalize classN a = ca at *
      generalize flip a = fa at *
      generalize flip b = fb at *
      go_enter Try.func8, Try.ntmps8
      go_wp2_with fail
      refine (A1.out _).mono ?_
      rintro e w1 ⟨rfl, c⟩
      have d := c
      clear c
      go_wp2_with fail
      refine (A2.out _).mono ?_
      rintro e w2 ⟨rfl, c⟩
      replace d := d.trans (c.mono d.size)
      clear c
      go_wp2_with fail
      refine (C1.out _).mono ?_
      rintro e w3 ⟨rfl, rfl⟩
      go_wp2_with fail
      refine (C2.out _).mono ?_
      rintro e w4 ⟨rfl, rfl⟩
      go_wp2_with fail
      refine (AW.out _).mono ?_
      rintro e w5 ⟨rfl, c⟩
      replace d := d.trans (c.mono d.size)
      clear c
      go_wp2
      go_ret
      exact ⟨rfl, d⟩
  · have h1 : ¬ isNone a := fun h => hn (Or.inl h)
    have h2 : ¬ isNone b := fun h => hn (Or.inr h)
    have k1 := class_beq a h1
    have k2 := class_beq b h2
    have C1 : Hid (∀ w, Calls Try.prog 10 #[.int .u64 (a : Int)] w fun e w' => e = .returned (.int .i64 (classN a : Nat)) ∧ w' = w) := rclass_any a ha
    have C2 : Hid (∀ w, Calls Try.prog 10 #[.int .u64 (b : Int)] w fun e w' => e = .returned (.int .i64 (classN b : Nat)) ∧ w' = w) := rclass_any b hb
    have M1 : Hid (∀ w, Calls Try.prog 16 #[.int .u64 (a : Int), .int .u64 (b : Int)] w fun e w' => e = .returned (.int .u64 ((opN .mul a b : Nat) : Int)) ∧ Below w.heap.size w w') := mul_any a b ha hb
    have M2 : Hid (∀ w, Calls Try.prog 16 #[.int .u64 ((flip a : Nat) : Int), .int .u64 ((flip b : Nat) : Int)] w fun e w' => e = .returned (.int .u64 ((opN .mul a b : Nat) : Int)) ∧ Below w.heap.size w w') := by have := mul_any (flip a) (flip b) hfa hfb; rw [op_mul_flip a b ha hb] at this; exact this
    have P1 : Hid (∀ w, Calls Try.prog 22 #[.int .u64 ((flip a : Nat) : Int), .int .u64 ((flip b : Nat) : Int)] w fun e w' => e = .returned (.int .u64 ((flip (pickN false a b) : Nat) : Int)) ∧ Below w.heap.size w w') := by have := min_any (flip a) (flip b) hfa hfb; rw [pick_flip a b ha hb h1 h2] at this; exact this
    have P2 : Hid (∀ w, Calls Try.prog 24 #[.int .u64 (a : Int), .int .u64 (b : Int)] w fun e w' => e = .returned (.int .u64 ((pickN false a b : Nat) : Int)) ∧ Below w.heap.size w w') := max_any a b ha hb
    have hz := xor_flip (pickN false a b) (pick_lt false a b ha hb)
    have t1 := rclass_any (opN .add a b) (op_lt .add a b)
    have t2 := rclass_any (opN .add (flip a) (flip b)) (op_lt .add _ _)
    have hu := xor_flip (opN .add a b) (op_lt .add a b)
    have hs := op_add_flip a b ha hb
    generalize flip (pickN false a b) = fm at *
    generalize pickN false a b = m at *
    generalize opN .mul a b = y at *
    generalize classN a = ca at *
    generalize classN b = cb at *
    generalize opN .add (flip a) (flip b) = t at *
    generalize flip a = fa at *
    generalize flip b = fb at *
    generalize opN .add a b = u at *
    clear ha hb hfa hfb hn h1 h2
    rcases hs with ⟨g1, g2⟩ | ⟨g0, g1, g2⟩ | ⟨g1, g2⟩
    · subst g1 g2
      rw [show classN 9221120237041090560 = 4 by decide +kernel] at t1
      have A1 : Hid (∀ w, Calls Try.prog 14 #[.int .u64 (a : Int), .int .u64 (b : Int)] w fun e w' => e = .returned (.int .u64 9221120237041090560) ∧ Below w.heap.size w w') := s1
      have A2 : Hid (∀ w, Calls Try.prog 14 #[.int .u64 ((fa : Nat) : Int), .int .u64 ((fb : Nat) : Int)] w fun e w' => e = .returned (.int .u64 9221120237041090560) ∧ Below w.heap.size w w') := s2
      have T1 : Hid (∀ w, Calls Try.prog 10 #[.int .u64 9221120237041090560] w fun e w' => e = .returned (.int .i64 4) ∧ w' = w) := t1
      clear s1 s2 t1 t2 hu hz
      go_enter Try.func8, Try.ntmps8
      go_wp2_with fail
      refine (A1.out _).mono ?_
      rintro e w1 ⟨rfl, c⟩
      have d := c
      clear c
      go_wp2_with fail
      refine (A2.out _).mono ?_
      rintro e w2 ⟨rfl, c⟩
      replace d := d.trans (c.mono d.size)
      clear c
      go_wp2_with fail
      refine (C1.out _).mono ?_
      rintro e w3 ⟨rfl, rfl⟩
      go_wp2_with fail
      refine (C2.out _).mono ?_
      rintro e w4 ⟨rfl, rfl⟩
      go_wp2_with fail
      refine (T1.out _).mono ?_
      rintro e w5 ⟨rfl, rfl⟩
      go_wp2_with fail
      refine (T1.out _).mono ?_
      rintro e w6 ⟨rfl, rfl⟩
      go_wp2_with fail
      refine (AW.out _).mono ?_
      rintro e w7 ⟨rfl, c⟩
      replace d := d.trans (c.mono d.size)
      clear c
      go_wp2
      go_ret
      exact ⟨rfl, d⟩
    · subst g2
      have j1 := class_beq u g0
      have j2 : ((classN u : Int) != 0) = true := by
        have : classN u ≠ 0 := by unfold classN; rw [if_neg g1]; (repeat' split) <;> omega
        simp; omega
      have j3 : ((classN u : Int) == 0) = false := by
        have : classN u ≠ 0 := by unfold classN; rw [if_neg g1]; (repeat' split) <;> omega
        simp; omega
      generalize classN u = cu at *
      generalize flip u = fu at *
      have A1 : Hid (∀ w, Calls Try.prog 14 #[.int .u64 (a : Int), .int .u64 (b : Int)] w fun e w' => e = .returned (.int .u64 ((u : Nat) : Int)) ∧ Below w.heap.size w w') := s1
      have A2 : Hid (∀ w, Calls Try.prog 14 #[.int .u64 ((fa : Nat) : Int), .int .u64 ((fb : Nat) : Int)] w fun e w' => e = .returned (.int .u64 ((fu : Nat) : Int)) ∧ Below w.heap.size w w') := s2
      have T1 : Hid (∀ w, Calls Try.prog 10 #[.int .u64 ((u : Nat) : Int)] w fun e w' => e = .returned (.int .i64 (cu : Nat)) ∧ w' = w) := t1
      clear s1 s2 t1 t2 g0 g1
      go_enter Try.func8, Try.ntmps8
      go_wp2_with fail
      refine (A1.out _).mono ?_
      rintro e w1 ⟨rfl, c⟩
      have d := c
      clear c
      go_wp2_with fail
      refine (A2.out _).mono ?_
      rintro e w2 ⟨rfl, c⟩
      replace d := d.trans (c.mono d.size)
      clear c
      go_wp2_with fail
      refine (C1.out _).mono ?_
      rintro e w3 ⟨rfl, rfl⟩
      go_wp2_with fail
      refine (C2.out _).mono ?_
      rintro e w4 ⟨rfl, rfl⟩
      go_wp2_with fail
      refine (T1.out _).mono ?_
      rintro e w5 ⟨rfl, rfl⟩
      go_wp2_with fail
      refine (T1.out _).mono ?_
      rintro e w6 ⟨rfl, rfl⟩
      go_wp2_with fail
      refine (T1.out _).mono ?_
      rintro e w7 ⟨rfl, rfl⟩
      go_wp2_with fail
      refine (M1.out _).mono ?_
      rintro e w8 ⟨rfl, c⟩
      replace d := d.trans (c.mono d.size)
      clear c
      go_wp2_with fail
      refine (M2.out _).mono ?_
      rintro e w9 ⟨rfl, c⟩
      replace d := d.trans (c.mono d.size)
      clear c
      go_wp2_with fail
      refine (P1.out _).mono ?_
      rintro e w10 ⟨rfl, c⟩
      replace d := d.trans (c.mono d.size)
      clear c
      go_wp2_with fail
      refine (P2.out _).mono ?_
      rintro e w11 ⟨rfl, c⟩
      replace d := d.trans (c.mono d.size)
      clear c
      go_wp2_with fail
      refine (AW.out _).mono ?_
      rintro e w12 ⟨rfl, c⟩
      replace d := d.trans (c.mono d.size)
      clear c
      go_wp2
      go_ret
      exact ⟨rfl, d⟩
    · have j1 : classN u = 0 := by unfold classN; rw [if_pos g1]
      have j2 : classN t = 0 := by unfold classN; rw [if_pos g2]
      rw [j1] at t1
      rw [j2] at t2
      generalize flip u = fu at *
      have A1 : Hid (∀ w, Calls Try.prog 14 #[.int .u64 (a : Int), .int .u64 (b : Int)] w fun e w' => e = .returned (.int .u64 ((u : Nat) : Int)) ∧ Below w.heap.size w w') := s1
      have A2 : Hid (∀ w, Calls Try.prog 14 #[.int .u64 ((fa : Nat) : Int), .int .u64 ((fb : Nat) : Int)] w fun e w' => e = .returned (.int .u64 ((t : Nat) : Int)) ∧ Below w.heap.size w w') := s2
      have T1 : Hid (∀ w, Calls Try.prog 10 #[.int .u64 ((u : Nat) : Int)] w fun e w' => e = .returned (.int .i64 0) ∧ w' = w) := t1
      have T2 : Hid (∀ w, Calls Try.prog 10 #[.int .u64 ((t : Nat) : Int)] w fun e w' => e = .returned (.int .i64 0) ∧ w' = w) := t2
      clear s1 s2 t1 t2 g1 g2 j1 j2 hu
      go_enter Try.func8, Try.ntmps8
      go_wp2_with fail
      refine (A1.out _).mono ?_
      rintro e w1 ⟨rfl, c⟩
      have d := c
      clear c
      go_wp2_with fail
      refine (A2.out _).mono ?_
      rintro e w2 ⟨rfl, c⟩
      replace d := d.trans (c.mono d.size)
      clear c
      go_wp2_with fail
      refine (C1.out _).mono ?_
      rintro e w3 ⟨rfl, rfl⟩
      go_wp2_with fail
      refine (C2.out _).mono ?_
      rintro e w4 ⟨rfl, rfl⟩
      go_wp2_with fail
      refine (T1.out _).mono ?_
      rintro e w5 ⟨rfl, rfl⟩
      go_wp2_with fail
      refine (T1.out _).mono ?_
      rintro e w6 ⟨rfl, rfl⟩
      go_wp2_with fail
      refine (T1.out _).mono ?_
      rintro e w7 ⟨rfl, rfl⟩
      go_wp2_with fail
      refine (T2.out _).mono ?_
      rintro e w8 ⟨rfl, rfl⟩
      go_wp2_with fail
      refine (M1.out _).mono ?_
      rintro e w9 ⟨rfl, c⟩
      replace d := d.trans (c.mono d.size)
      clear c
      go_wp2_with fail
      refine (M2.out _).mono ?_
      rintro e w10 ⟨rfl, c⟩
      replace d := d.trans (c.mono d.size)
      clear c
      go_wp2_with fail
      refine (P1.out _).mono ?_
      rintro e w11 ⟨rfl, c⟩
      replace d := d.trans (c.mono d.size)
      clear c
      go_wp2_with fail
      refine (P2.out _).mono ?_
      rintro e w12 ⟨rfl, c⟩
      replace d := d.trans (c.mono d.size)
      clear c
      go_wp2_with fail
      refine (AW.out _).mono ?_
      rintro e w13 ⟨rfl, c⟩
      replace d := d.trans (c.mono d.size)
      clear c
      go_wp2
      go_ret
      exact ⟨rfl, d⟩

set_option maxRecDepth 100000 in
theorem lifted (os : Os) (started : os.Started) (H : Type) (enc : TypeId × Value → H) :
    ReturnsInHanded {} Try.checked os 8 .any (Rows.realSignsSpec.pre6 enc Try.prog Try.f8 Rows.realSignsRow.domain false) (Rows.realSignsSpec.post enc Try.prog Try.f8 false true false false) := by
  refine returnsInHanded_of_change (C := Try.checked) own started (by kernel_rfl) Try.func8
    (ChangeSpec.witness6 (enc := enc) (C := Try.checked) false ⟨#[], #[.int .u64 0, .int .u64 0], []⟩ 8 (by kernel_rfl) (by kernel_rfl) (by kernel_rfl) (by kernel_rfl)) ?_
  intro W base args ds gs before hval0 hW hcnd _
  have hval : ∀ (j : Nat) t v, Try.f8.params[j]? = some t → args[j]? = some v → Value.okWide Try.prog W .any base t v := hval0
  have hW' := hW
  obtain ⟨p, q, hA0, hV, rfl, hfz, hnd⟩ := hW
  have hA : DataW.TrodAll enc Try.prog W 0 (fun _ => true) true Try.f8.params.toList args.toList ds p := hA0
  rw [Try.params8] at hA hval
  obtain ⟨v0, vs0, d0, ds0, p0, q0, hargs, rfl, rfl, h0, r0⟩ := trodAll_cons hA
  obtain ⟨v1, vs1, d1, ds1, p1, q1, rfl, rfl, rfl, h1, r1⟩ := trodAll_cons r0
  obtain ⟨rfl, rfl, rfl⟩ := trodAll_nil r1
  obtain rfl : args = #[v0, v1] := by cases args; simp_all
  obtain ⟨rfl, rfl⟩ := trodVars_none hV
  obtain ⟨a0, rfl, rfl, rfl, w0⟩ := open_int Try.underlying22 (hval 0 22 v0 rfl rfl) h0
  obtain ⟨a1, rfl, rfl, rfl, w1⟩ := open_int Try.underlying22 (hval 1 22 v1 rfl rfl) h1
  clear hA0 hval0
  simp only [List.append_nil] at hW'
  refine (walk a0 a1 w0 w1 W).mono fun e W' ⟨he, hg⟩ => ?_
  subst he
  exact ⟨_, rfl, _, _, _, [], _, [], hW', (trodAll_cons_mk (shut_bool Try.underlying4 _) trodAll_mk0), (trodAll_cons_mk (shut_int Try.underlying22 w0) (trodAll_cons_mk (shut_int Try.underlying22 w1) trodAll_mk0)), rfl, hg.frame _, fun h => by cases h⟩

theorem over : Rows.realSignsRow.holds Try.pinned (OpenSpec.ofChange Rows.realSignsSpec) :=
  OpenClaim.holds_of_wide 8 Try.f8 rfl rfl rfl rfl rfl rfl rfl ⟨rfl, rfl, rfl, rfl, rfl⟩ rfl rfl rfl rfl rfl (by kernel_rfl) Try.func8 (by kernel_rfl)
    (of_decide_eq_true (by kernel_rfl)) (by unfold Func.isWrapper; first | (rw [if_pos (by decide +kernel)]; kernel_rfl) | (rw [if_neg (by decide +kernel)]; exact ⟨rfl, rfl⟩))
    (fun os started H enc _ => lifted os started H enc)

end Go.Proofs.Ytlchjfdnkplmmaa.realSigns
namespace Go.Proofs.Ytlchjfdnkplmmaa
theorem realSigns_holds : Rows.RealSignsSaid := realSigns.over
end Go.Proofs.Ytlchjfdnkplmmaa
