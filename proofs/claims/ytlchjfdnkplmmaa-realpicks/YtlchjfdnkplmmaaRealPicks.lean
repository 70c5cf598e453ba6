/- Proved: for every a, b, way and n the law RealPicks answers true (the lesser and the greater one, numbers without their part behind the point, and whole numbers, are the document's); no conditions. -/
import Derived.Test.YtlchjfdnkplmmaaRows
import Derived.Test.YtlchjfdnkplmmaaRint
import Derived.WalkKit
import Derived.ProofKit
import Derived.OpenShut
import Derived.ShutString
namespace Go.Proofs.Ytlchjfdnkplmmaa.realPicks
open Go.ChangeShapes Go.WideShapes Go.ChangeAt Go.RowKit
open Go.ChangeMaps (open_string shut_string)
set_option linter.unusedVariables false

theorem own : ownKnob Try.prog.godebug = none := by kernel_rfl

set_option maxHeartbeats 1000000 in
theorem walk (a0 : Int) (a1 : Int) (a2 : Int) (a3 : Int) (w0 : (Lit.int .u64 a0).wf = true) (w1 : (Lit.int .u64 a1).wf = true) (w2 : (Lit.int .i64 a2).wf = true) (w3 : (Lit.int .i32 a3).wf = true) (w : World) :
    Calls Try.prog 5 #[.int .u64 a0, .int .u64 a1, .int .i64 a2, .int .i32 a3] w fun e w' => e = .returned (.bool true) ∧ Below w.heap.size w w' := by
  obtain ⟨b0, b0'⟩ := bounds_u64 w0
  obtain ⟨b1, b1'⟩ := bounds_u64 w1
  obtain ⟨a, rfl⟩ := Int.eq_ofNat_of_zero_le b0
  obtain ⟨b, rfl⟩ := Int.eq_ofNat_of_zero_le b1
  have ha : a < 18446744073709551616 := by omega
  have hb : b < 18446744073709551616 := by omega
  obtain ⟨b3, b3'⟩ := bounds_i32 w3
  clear w0 w1 w2 w3 b0 b1 b0' b1'
  have AW : Hid (∀ w, Calls Try.prog 13 #[] w fun e w' => e = .returned (.bool true) ∧ Below w.heap.size w w') := awake_any
  have I1 : Hid (∀ w, Calls Try.prog 20 #[.int .u64 (a : Int)] w fun e w' => e = .returned (.tuple #[.int .i32 (intV a), .bool (decide (¬ outOf (cutN a)))]) ∧ Below w.heap.size w w') := int_any a ha
  have I2 : Hid (∀ w, Calls Try.prog 21 #[.int .u64 (a : Int)] w fun e w' => e = .returned (.tuple #[.int .i32 (intV a), .bool (decide (¬ outOf (cutN a)))]) ∧ w' = w) := rint_any a ha
  have P1 : Hid (∀ w, Calls Try.prog 22 #[.int .u64 (a : Int), .int .u64 (b : Int)] w fun e w' => e = .returned (.int .u64 ((pickN true a b : Nat) : Int)) ∧ Below w.heap.size w w') := min_any a b ha hb
  have P2 : Hid (∀ w, Calls Try.prog 23 #[.int .u64 (a : Int), .int .u64 (b : Int)] w fun e w' => e = .returned (.int .u64 ((pickN true a b : Nat) : Int)) ∧ w' = w) := rmin_any a b ha hb
  have P3 : Hid (∀ w, Calls Try.prog 24 #[.int .u64 (a : Int), .int .u64 (b : Int)] w fun e w' => e = .returned (.int .u64 ((pickN false a b : Nat) : Int)) ∧ Below w.heap.size w w') := max_any a b ha hb
  have P4 : Hid (∀ w, Calls Try.prog 25 #[.int .u64 (a : Int), .int .u64 (b : Int)] w fun e w' => e = .returned (.int .u64 ((pickN false a b : Nat) : Int)) ∧ w' = w) := rmax_any a b ha hb
  have R1 : Hid (∀ w, Calls Try.prog 26 #[.int .u64 (a : Int), .int .i64 a2] w fun e w' => e = .returned (.int .u64 ((roundN a a2 : Nat) : Int)) ∧ Below w.heap.size w w') := round_any a a2 ha
  have R2 : Hid (∀ w, Calls Try.prog 27 #[.int .u64 (a : Int), .int .i64 a2] w fun e w' => e = .returned (.int .u64 ((roundN a a2 : Nat) : Int)) ∧ w' = w) := rround_any a a2 ha
  have F1 : Hid (∀ w, Calls Try.prog 28 #[.int .i32 a3] w fun e w' => e = .returned (.int .u64 ((ofN a3 : Nat) : Int)) ∧ w' = w) := of_any a3
  have F2 : Hid (∀ w, Calls Try.prog 29 #[.int .i32 a3] w fun e w' => e = .returned (.int .u64 ((ofN a3 : Nat) : Int)) ∧ w' = w) := rof_any a3 b3 b3'
  clear ha hb b3 b3'
  generalize decide (¬ outOf (cutN a)) = v at *
  generalize intV a = i at *
  generalize pickN true a b = p at *
  generalize pickN false a b = q at *
  generalize roundN a a2 = r at *
  generalize ofN a3 = f at *
  go_enter Try.func5, Try.ntmps5
  go_wp2_with fail
  refine (I1.out _).mono ?_
  rintro e w1 ⟨rfl, c⟩
  have d := c
  clear c
  go_wp2_with fail
  refine (I2.out _).mono ?_
  rintro e w2 ⟨rfl, rfl⟩
  go_wp2_with fail
  refine (P1.out _).mono ?_
  rintro e w3 ⟨rfl, c⟩
  replace d := d.trans (c.mono d.size)
  clear c
  go_wp2_with fail
  refine (P2.out _).mono ?_
  rintro e w4 ⟨rfl, rfl⟩
  go_wp2_with fail
  refine (P3.out _).mono ?_
  rintro e w5 ⟨rfl, c⟩
  replace d := d.trans (c.mono d.size)
  clear c
  go_wp2_with fail
  refine (P4.out _).mono ?_
  rintro e w6 ⟨rfl, rfl⟩
  go_wp2_with fail
  refine (R1.out _).mono ?_
  rintro e w7 ⟨rfl, c⟩
  replace d := d.trans (c.mono d.size)
  clear c
  go_wp2_with fail
  refine (R2.out _).mono ?_
  rintro e w8 ⟨rfl, rfl⟩
  go_wp2_with fail
  refine (F1.out _).mono ?_
  rintro e w9 ⟨rfl, rfl⟩
  go_wp2_with fail
  refine (F2.out _).mono ?_
  rintro e w10 ⟨rfl, rfl⟩
  go_wp2_with fail
  refine (AW.out _).mono ?_
  rintro e w11 ⟨rfl, c⟩
  replace d := d.trans (c.mono d.size)
  clear c
  go_wp2
  go_ret
  exact ⟨rfl, d⟩

set_option maxRecDepth 100000 in
theorem lifted (os : Os) (started : os.Started) (H : Type) (enc : TypeId × Value → H) :
    ReturnsInHanded {} Try.checked os 5 .any (Rows.realPicksSpec.pre6 enc Try.prog Try.f5 Rows.realPicksRow.domain false) (Rows.realPicksSpec.post enc Try.prog Try.f5 false true false false) := by
  refine returnsInHanded_of_change (C := Try.checked) own started (by kernel_rfl) Try.func5
    (ChangeSpec.witness6 (enc := enc) (C := Try.checked) false ⟨#[], #[.int .u64 0, .int .u64 0, .int .i64 0, .int .i32 0], []⟩ 8 (by kernel_rfl) (by kernel_rfl) (by kernel_rfl) (by kernel_rfl)) ?_
  intro W base args ds gs before hval0 hW hcnd _
  have hval : ∀ (j : Nat) t v, Try.f5.params[j]? = some t → args[j]? = some v → Value.okWide Try.prog W .any base t v := hval0
  have hW' := hW
  obtain ⟨p, q, hA0, hV, rfl, hfz, hnd⟩ := hW
  have hA : DataW.TrodAll enc Try.prog W 0 (fun _ => true) true Try.f5.params.toList args.toList ds p := hA0
  rw [Try.params5] at hA hval
  obtain ⟨v0, vs0, d0, ds0, p0, q0, hargs, rfl, rfl, h0, r0⟩ := trodAll_cons hA
  obtain ⟨v1, vs1, d1, ds1, p1, q1, rfl, rfl, rfl, h1, r1⟩ := trodAll_cons r0
  obtain ⟨v2, vs2, d2, ds2, p2, q2, rfl, rfl, rfl, h2, r2⟩ := trodAll_cons r1
  obtain ⟨v3, vs3, d3, ds3, p3, q3, rfl, rfl, rfl, h3, r3⟩ := trodAll_cons r2
  obtain ⟨rfl, rfl, rfl⟩ := trodAll_nil r3
  obtain rfl : args = #[v0, v1, v2, v3] := by cases args; simp_all
  obtain ⟨rfl, rfl⟩ := trodVars_none hV
  obtain ⟨a0, rfl, rfl, rfl, w0⟩ := open_int Try.underlying22 (hval 0 22 v0 rfl rfl) h0
  obtain ⟨a1, rfl, rfl, rfl, w1⟩ := open_int Try.underlying22 (hval 1 22 v1 rfl rfl) h1
  obtain ⟨a2, rfl, rfl, rfl, w2⟩ := open_int Try.underlying3 (hval 2 3 v2 rfl rfl) h2
  obtain ⟨a3, rfl, rfl, rfl, w3⟩ := open_int Try.underlying21 (hval 3 21 v3 rfl rfl) h3
  clear hA0 hval0
  simp only [List.append_nil] at hW'
  refine (walk a0 a1 a2 a3 w0 w1 w2 w3 W).mono fun e W' ⟨he, hg⟩ => ?_
  subst he
  exact ⟨_, rfl, _, _, _, [], _, [], hW', (trodAll_cons_mk (shut_bool Try.underlying4 _) trodAll_mk0), (trodAll_cons_mk (shut_int Try.underlying22 w0) (trodAll_cons_mk (shut_int Try.underlying22 w1) (trodAll_cons_mk (shut_int Try.underlying3 w2) (trodAll_cons_mk (shut_int Try.underlying21 w3) trodAll_mk0)))), rfl, hg.frame _, fun h => by cases h⟩

theorem over : Rows.realPicksRow.holds Try.pinned (OpenSpec.ofChange Rows.realPicksSpec) :=
  OpenClaim.holds_of_wide 5 Try.f5 rfl rfl rfl rfl rfl rfl rfl ⟨rfl, rfl, rfl, rfl, rfl⟩ rfl rfl rfl rfl rfl (by kernel_rfl) Try.func5 (by kernel_rfl)
    (of_decide_eq_true (by kernel_rfl)) (by unfold Func.isWrapper; first | (rw [if_pos (by decide +kernel)]; kernel_rfl) | (rw [if_neg (by decide +kernel)]; exact ⟨rfl, rfl⟩))
    (fun os started H enc _ => lifted os started H enc)

end Go.Proofs.Ytlchjfdnkplmmaa.realPicks
namespace Go.Proofs.Ytlchjfdnkplmmaa
theorem realPicks_holds : Rows.RealPicksSaid := realPicks.over
end Go.Proofs.Ytlchjfdnkplmmaa
