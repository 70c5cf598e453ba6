/- Proved: for every a the law RealRounds answers true (what is rounded down is not above, what is rounded up not below, and both, and the nearest, are one of two whole numbers, and so is that towards nought); no conditions. -/
import Derived.Test.YtlchjfdnkplmmabRows
import Derived.Test.YtlchjfdnkplmmabLaws
import Derived.WalkKit
import Derived.ProofKit
import Derived.OpenShut
import Derived.ShutString
namespace Go.Proofs.Ytlchjfdnkplmmab.realRounds
open Go.ChangeShapes Go.WideShapes Go.ChangeAt Go.RowKit
open Go.ChangeMaps (open_string shut_string)
set_option linter.unusedVariables false

theorem own : ownKnob Try.prog.godebug = none := by kernel_rfl

set_option maxHeartbeats 1000000 in
theorem walk (a0 : Int) (w0 : (Lit.int .u64 a0).wf = true) (w : World) :
    Calls Try.prog 3 #[.int .u64 a0] w fun e w' => e = .returned (.bool true) ∧ Below w.heap.size w w' := by
  obtain ⟨b0, b0'⟩ := bounds_u64 w0
  obtain ⟨a, rfl⟩ := Int.eq_ofNat_of_zero_le b0
  have ha : a < 18446744073709551616 := by omega
  clear w0 b0 b0'
  have AW : Hid (∀ w, Calls Try.prog 5 #[] w fun e w' => e = .returned (.bool true) ∧ Below w.heap.size w w') := awake_any
  by_cases hn : isNone a
  · have C : Hid (∀ w, Calls Try.prog 4 #[.int .u64 (a : Int)] w fun e w' => e = .returned (.int .i64 4) ∧ w' = w) := rclass_none a ha hn
    clear hn ha
    go_enter Try.func3, Try.ntmps3
    go_wp2_with fail
    refine (C.out _).mono ?_
    rintro e w1 ⟨rfl, rfl⟩
    go_wp2_with fail
    refine (AW.out _).mono ?_
    rintro e w2 ⟨rfl, c⟩
    have d := c
    clear c
    go_wp2
    go_ret
    exact ⟨rfl, d⟩
  have k4 := class_beq a hn
  have C : Hid (∀ w, Calls Try.prog 4 #[.int .u64 (a : Int)] w fun e w' => e = .returned (.int .i64 (classN a : Nat)) ∧ w' = w) := rclass_any a ha
  have r1 := round_any a 1 ha
  have r2 := round_any a 2 ha
  have r0 := round_any a 0 ha
  have r3 := round_any a 3 ha
  generalize classN a = ca at *
  rcases rounds_told a ha hn with ⟨e1, e2, e0, e3, eo⟩ | ⟨l1, l2, ne1, ne2, o1, o2, ec, ee⟩
  · rw [e1] at r1
    rw [e2] at r2
    rw [e0] at r0
    rw [e3] at r3
    have oo := rorder_any a a ha ha
    rw [eo] at oo
    have R1 : Hid (∀ w, Calls Try.prog 6 #[.int .u64 (a : Int), .int .i64 1] w fun e w' => e = .returned (.int .u64 (a : Int)) ∧ Below w.heap.size w w') := r1
    have R2 : Hid (∀ w, Calls Try.prog 6 #[.int .u64 (a : Int), .int .i64 2] w fun e w' => e = .returned (.int .u64 (a : Int)) ∧ Below w.heap.size w w') := r2
    have R0 : Hid (∀ w, Calls Try.prog 6 #[.int .u64 (a : Int), .int .i64 0] w fun e w' => e = .returned (.int .u64 (a : Int)) ∧ Below w.heap.size w w') := r0
    have R3 : Hid (∀ w, Calls Try.prog 6 #[.int .u64 (a : Int), .int .i64 3] w fun e w' => e = .returned (.int .u64 (a : Int)) ∧ Below w.heap.size w w') := r3
    have O : Hid (∀ w, Calls Try.prog 7 #[.int .u64 (a : Int), .int .u64 (a : Int)] w fun e w' => e = .returned (.int .i64 0) ∧ w' = w) := oo
    clear r1 r2 r0 r3 e1 e2 e0 e3 eo oo hn ha
    go_enter Try.func3, Try.ntmps3
    go_wp2_with fail
    refine (C.out _).mono ?_
    rintro e w1 ⟨rfl, rfl⟩
    go_wp2_with fail
    refine (R1.out _).mono ?_
    rintro e w2 ⟨rfl, c⟩
    have d := c
    clear c
    go_wp2_with fail
    refine (R2.out _).mono ?_
    rintro e w3 ⟨rfl, c⟩
    replace d := d.trans (c.mono d.size)
    clear c
    go_wp2_with fail
    refine (R0.out _).mono ?_
    rintro e w4 ⟨rfl, c⟩
    replace d := d.trans (c.mono d.size)
    clear c
    go_wp2_with fail
    refine (R3.out _).mono ?_
    rintro e w5 ⟨rfl, c⟩
    replace d := d.trans (c.mono d.size)
    clear c
    go_wp2_with fail
    refine (O.out _).mono ?_
    rintro e w6 ⟨rfl, rfl⟩
    go_wp2_with fail
    refine (O.out _).mono ?_
    rintro e w7 ⟨rfl, rfl⟩
    go_wp2_with fail
    refine (AW.out _).mono ?_
    rintro e w8 ⟨rfl, c⟩
    replace d := d.trans (c.mono d.size)
    clear c
    go_wp2
    go_ret
    exact ⟨rfl, d⟩
  · have p1 := rorder_any (roundN a 1) a l1 ha
    have p2 := rorder_any (roundN a 2) a l2 ha
    rw [o1] at p1
    rw [o2] at p2
    generalize roundN a 0 = c at *
    generalize roundN a 3 = e' at *
    generalize roundN a 1 = x at *
    generalize roundN a 2 = y at *
    have q1 : (((x : Nat) : Int) == ((y : Nat) : Int)) = false := by simp; omega
    have q2 : (((x : Nat) : Int) == ((a : Nat) : Int)) = false := by simp; omega
    have q3 : (((y : Nat) : Int) != ((x : Nat) : Int)) = true := by simp; omega
    have q4 : (((x : Nat) : Int) != ((y : Nat) : Int)) = true := by simp; omega
    have R1 : Hid (∀ w, Calls Try.prog 6 #[.int .u64 (a : Int), .int .i64 1] w fun e w' => e = .returned (.int .u64 ((x : Nat) : Int)) ∧ Below w.heap.size w w') := r1
    have R2 : Hid (∀ w, Calls Try.prog 6 #[.int .u64 (a : Int), .int .i64 2] w fun e w' => e = .returned (.int .u64 ((y : Nat) : Int)) ∧ Below w.heap.size w w') := r2
    have O1 : Hid (∀ w, Calls Try.prog 7 #[.int .u64 ((x : Nat) : Int), .int .u64 (a : Int)] w fun e w' => e = .returned (.int .i64 (-1)) ∧ w' = w) := p1
    have O2 : Hid (∀ w, Calls Try.prog 7 #[.int .u64 ((y : Nat) : Int), .int .u64 (a : Int)] w fun e w' => e = .returned (.int .i64 1) ∧ w' = w) := p2
    clear r1 r2 p1 p2 o1 o2 l1 l2 ne1 ne2 hn ha
    rcases ec with hc | hc <;> rw [hc] at r0
    · rcases ee with he | he <;> rw [he] at r3
      · have R0 : Hid (∀ w, Calls Try.prog 6 #[.int .u64 (a : Int), .int .i64 0] w fun e w' => e = .returned (.int .u64 ((x : Nat) : Int)) ∧ Below w.heap.size w w') := r0
        have R3 : Hid (∀ w, Calls Try.prog 6 #[.int .u64 (a : Int), .int .i64 3] w fun e w' => e = .returned (.int .u64 ((x : Nat) : Int)) ∧ Below w.heap.size w w') := r3
        clear r0 r3 hc he
        go_enter Try.func3, Try.ntmps3
        go_wp2_with fail
        refine (C.out _).mono ?_
        rintro e w1 ⟨rfl, rfl⟩
        go_wp2_with fail
        refine (R1.out _).mono ?_
        rintro e w2 ⟨rfl, c⟩
        have d := c
        clear c
        go_wp2_with fail
        refine (R2.out _).mono ?_
        rintro e w3 ⟨rfl, c⟩
        replace d := d.trans (c.mono d.size)
        clear c
        go_wp2_with fail
        refine (R0.out _).mono ?_
        rintro e w4 ⟨rfl, c⟩
        replace d := d.trans (c.mono d.size)
        clear c
        go_wp2_with fail
        refine (R3.out _).mono ?_
        rintro e w5 ⟨rfl, c⟩
        replace d := d.trans (c.mono d.size)
        clear c
        go_wp2_with fail
        refine (O1.out _).mono ?_
        rintro e w6 ⟨rfl, rfl⟩
        go_wp2_with fail
        refine (O2.out _).mono ?_
        rintro e w7 ⟨rfl, rfl⟩
        go_wp2_with fail
        refine (AW.out _).mono ?_
        rintro e w8 ⟨rfl, c⟩
        replace d := d.trans (c.mono d.size)
        clear c
        go_wp2
        go_ret
        exact ⟨rfl, d⟩
      · have R0 : Hid (∀ w, Calls Try.prog 6 #[.int .u64 (a : Int), .int .i64 0] w fun e w' => e = .returned (.int .u64 ((x : Nat) : Int)) ∧ Below w.heap.size w w') := r0
        have R3 : Hid (∀ w, Calls Try.prog 6 #[.int .u64 (a : Int), .int .i64 3] w fun e w' => e = .returned (.int .u64 ((y : Nat) : Int)) ∧ Below w.heap.size w w') := r3
        clear r0 r3 hc he
        go_enter Try.func3, Try.ntmps3
        go_wp2_with fail
        refine (C.out _).mono ?_
        rintro e w1 ⟨rfl, rfl⟩
        go_wp2_with fail
        refine (R1.out _).mono ?_
        rintro e w2 ⟨rfl, c⟩
        have d := c
        clear c
        go_wp2_with fail
        refine (R2.out _).mono ?_
        rintro e w3 ⟨rfl, c⟩
        replace d := d.trans (c.mono d.size)
        clear c
        go_wp2_with fail
        refine (R0.out _).mono ?_
        rintro e w4 ⟨rfl, c⟩
        replace d := d.trans (c.mono d.size)
        clear c
        go_wp2_with fail
        refine (R3.out _).mono ?_
        rintro e w5 ⟨rfl, c⟩
        replace d := d.trans (c.mono d.size)
        clear c
        go_wp2_with fail
        refine (O1.out _).mono ?_
        rintro e w6 ⟨rfl, rfl⟩
        go_wp2_with fail
        refine (O2.out _).mono ?_
        rintro e w7 ⟨rfl, rfl⟩
        go_wp2_with fail
        refine (AW.out _).mono ?_
        rintro e w8 ⟨rfl, c⟩
        replace d := d.trans (c.mono d.size)
        clear c
        go_wp2
        go_ret
        exact ⟨rfl, d⟩
    · rcases ee with he | he <;> rw [he] at r3
      · have R0 : Hid (∀ w, Calls Try.prog 6 #[.int .u64 (a : Int), .int .i64 0] w fun e w' => e = .returned (.int .u64 ((y : Nat) : Int)) ∧ Below w.heap.size w w') := r0
        have R3 : Hid (∀ w, Calls Try.prog 6 #[.int .u64 (a : Int), .int .i64 3] w fun e w' => e = .returned (.int .u64 ((x : Nat) : Int)) ∧ Below w.heap.size w w') := r3
        clear r0 r3 hc he
        go_enter Try.func3, Try.ntmps3
        go_wp2_with fail
        refine (C.out _).mono ?_
        rintro e w1 ⟨rfl, rfl⟩
        go_wp2_with fail
        refine (R1.out _).mono ?_
        rintro e w2 ⟨rfl, c⟩
        have d := c
        clear c
        go_wp2_with fail
        refine (R2.out _).mono ?_
        rintro e w3 ⟨rfl, c⟩
        replace d := d.trans (c.mono d.size)
        clear c
        go_wp2_with fail
        refine (R0.out _).mono ?_
        rintro e w4 ⟨rfl, c⟩
        replace d := d.trans (c.mono d.size)
        clear c
        go_wp2_with fail
        refine (R3.out _).mono ?_
        rintro e w5 ⟨rfl, c⟩
        replace d := d.trans (c.mono d.size)
        clear c
        go_wp2_with fail
        refine (O1.out _).mono ?_
        rintro e w6 ⟨rfl, rfl⟩
        go_wp2_with fail
        refine (O2.out _).mono ?_
        rintro e w7 ⟨rfl, rfl⟩
        go_wp2_with fail
        refine (AW.out _).mono ?_
        rintro e w8 ⟨rfl, c⟩
        replace d := d.trans (c.mono d.size)
        clear c
        go_wp2
        go_ret
        exact ⟨rfl, d⟩
      · have R0 : Hid (∀ w, Calls Try.prog 6 #[.int .u64 (a : Int), .int .i64 0] w fun e w' => e = .returned (.int .u64 ((y : Nat) : Int)) ∧ Below w.heap.size w w') := r0
        have R3 : Hid (∀ w, Calls Try.prog 6 #[.int .u64 (a : Int), .int .i64 3] w fun e w' => e = .returned (.int .u64 ((y : Nat) : Int)) ∧ Below w.heap.size w w') := r3
        clear r0 r3 hc he
        go_enter Try.func3, Try.ntmps3
        go_wp2_with fail
        refine (C.out _).mono ?_
        rintro e w1 ⟨rfl, rfl⟩
        go_wp2_with fail
        refine (R1.out _).mono ?_
        rintro e w2 ⟨rfl, c⟩
        have d := c
        clear c
        go_wp2_with fail
        refine (R2.out _).mono ?_
        rintro e w3 ⟨rfl, c⟩
        replace d := d.trans (c.mono d.size)
        clear c
        go_wp2_with fail
        refine (R0.out _).mono ?_
        rintro e w4 ⟨rfl, c⟩
        replace d := d.trans (c.mono d.size)
        clear c
        go_wp2_with fail
        refine (R3.out _).mono ?_
        rintro e w5 ⟨rfl, c⟩
        replace d := d.trans (c.mono d.size)
        clear c
        go_wp2_with fail
        refine (O1.out _).mono ?_
        rintro e w6 ⟨rfl, rfl⟩
        go_wp2_with fail
        refine (O2.out _).mono ?_
        rintro e w7 ⟨rfl, rfl⟩
        go_wp2_with fail
        refine (AW.out _).mono ?_
        rintro e w8 ⟨rfl, c⟩
        replace d := d.trans (c.mono d.size)
        clear c
        go_wp2
        go_ret
        exact ⟨rfl, d⟩

set_option maxRecDepth 100000 in
theorem lifted (os : Os) (started : os.Started) (H : Type) (enc : TypeId × Value → H) :
    ReturnsInHanded {} Try.checked os 3 .any (Rows.realRoundsSpec.pre6 enc Try.prog Try.f3 Rows.realRoundsRow.domain false) (Rows.realRoundsSpec.post enc Try.prog Try.f3 false true false false) := by
  refine returnsInHanded_of_change (C := Try.checked) own started (by kernel_rfl) Try.func3
    (ChangeSpec.witness6 (enc := enc) (C := Try.checked) false ⟨#[], #[.int .u64 0], []⟩ 8 (by kernel_rfl) (by kernel_rfl) (by kernel_rfl) (by kernel_rfl)) ?_
  intro W base args ds gs before hval0 hW hcnd _
  have hval : ∀ (j : Nat) t v, Try.f3.params[j]? = some t → args[j]? = some v → Value.okWide Try.prog W .any base t v := hval0
  have hW' := hW
  obtain ⟨p, q, hA0, hV, rfl, hfz, hnd⟩ := hW
  have hA : DataW.TrodAll enc Try.prog W 0 (fun _ => true) true Try.f3.params.toList args.toList ds p := hA0
  rw [Try.params3] at hA hval
  obtain ⟨v0, vs0, d0, ds0, p0, q0, hargs, rfl, rfl, h0, r0⟩ := trodAll_cons hA
  obtain ⟨rfl, rfl, rfl⟩ := trodAll_nil r0
  obtain rfl : args = #[v0] := by cases args; simp_all
  obtain ⟨rfl, rfl⟩ := trodVars_none hV
  obtain ⟨a0, rfl, rfl, rfl, w0⟩ := open_int Try.underlying22 (hval 0 22 v0 rfl rfl) h0
  clear hA0 hval0
  simp only [List.append_nil] at hW'
  refine (walk a0 w0 W).mono fun e W' ⟨he, hg⟩ => ?_
  subst he
  exact ⟨_, rfl, _, _, _, [], _, [], hW', (trodAll_cons_mk (shut_bool Try.underlying4 _) trodAll_mk0), (trodAll_cons_mk (shut_int Try.underlying22 w0) trodAll_mk0), rfl, hg.frame _, fun h => by cases h⟩

theorem over : Rows.realRoundsRow.holds Try.pinned (OpenSpec.ofChange Rows.realRoundsSpec) :=
  OpenClaim.holds_of_wide 3 Try.f3 rfl rfl rfl rfl rfl rfl rfl ⟨rfl, rfl, rfl, rfl, rfl⟩ rfl rfl rfl rfl rfl (by kernel_rfl) Try.func3 (by kernel_rfl)
    (of_decide_eq_true (by kernel_rfl)) (by unfold Func.isWrapper; first | (rw [if_pos (by decide +kernel)]; kernel_rfl) | (rw [if_neg (by decide +kernel)]; exact ⟨rfl, rfl⟩))
    (fun os started H enc _ => lifted os started H enc)

end Go.Proofs.Ytlchjfdnkplmmab.realRounds
namespace Go.Proofs.Ytlchjfdnkplmmab
theorem realRounds_holds : Rows.RealRoundsSaid := realRounds.over
end Go.Proofs.Ytlchjfdnkplmmab
