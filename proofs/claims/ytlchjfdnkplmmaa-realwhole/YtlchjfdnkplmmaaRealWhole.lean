/- Proved: for every a, b, way and n the law RealWhole answers true (a whole number comes back, rounded twice is rounded once, the lesser and the greater one are one of both, in order); no conditions. -/
import Derived.Test.YtlchjfdnkplmmaaRows
import Derived.Test.YtlchjfdnkplmmaaLaws2
import Derived.WalkKit
import Derived.ProofKit
import Derived.OpenShut
import Derived.ShutString
namespace Go.Proofs.Ytlchjfdnkplmmaa.realWhole
open Go.ChangeShapes Go.WideShapes Go.ChangeAt Go.RowKit
open Go.ChangeMaps (open_string shut_string)
set_option linter.unusedVariables false

theorem own : ownKnob Try.prog.godebug = none := by kernel_rfl

set_option maxHeartbeats 1000000 in
theorem walk (a0 : Int) (a1 : Int) (a2 : Int) (a3 : Int) (w0 : (Lit.int .u64 a0).wf = true) (w1 : (Lit.int .u64 a1).wf = true) (w2 : (Lit.int .u8 a2).wf = true) (w3 : (Lit.int .i32 a3).wf = true) (w : World) :
    Calls Try.prog 7 #[.int .u64 a0, .int .u64 a1, .int .u8 a2, .int .i32 a3] w fun e w' => e = .returned (.bool true) ∧ Below w.heap.size w w' := by
  obtain ⟨b0, b0'⟩ := bounds_u64 w0
  obtain ⟨b1, b1'⟩ := bounds_u64 w1
  obtain ⟨a, rfl⟩ := Int.eq_ofNat_of_zero_le b0
  obtain ⟨b, rfl⟩ := Int.eq_ofNat_of_zero_le b1
  have ha : a < 18446744073709551616 := by omega
  have hb : b < 18446744073709551616 := by omega
  obtain ⟨b2, b2'⟩ := bounds_u8 w2
  obtain ⟨b3, b3'⟩ := bounds_i32 w3
  obtain ⟨k, hk⟩ : ∃ k : Int, a2 % 4 = k := ⟨_, rfl⟩
  clear w0 w1 w2 w3 b0 b1 b0' b1'
  have AW : Hid (∀ w, Calls Try.prog 13 #[] w fun e w' => e = .returned (.bool true) ∧ Below w.heap.size w w') := awake_any
  have OF : Hid (∀ w, Calls Try.prog 28 #[.int .i32 a3] w fun e w' => e = .returned (.int .u64 ((ofN a3 : Nat) : Int)) ∧ w' = w) := of_any a3
  have IN : Hid (∀ w, Calls Try.prog 20 #[.int .u64 ((ofN a3 : Nat) : Int)] w fun e w' => e = .returned (.tuple #[.int .i32 a3, .bool true]) ∧ Below w.heap.size w w') := by have := int_any (ofN a3) (ofN_fin a3 b3 b3').2; rw [(int_back a3 b3 b3').1, (int_back a3 b3 b3').2] at this; exact this
  have R1 : Hid (∀ w, Calls Try.prog 26 #[.int .u64 (a : Int), .int .i64 k] w fun e w' => e = .returned (.int .u64 ((roundN a k : Nat) : Int)) ∧ Below w.heap.size w w') := round_any a k ha
  have R2 : Hid (∀ w, Calls Try.prog 26 #[.int .u64 ((roundN a k : Nat) : Int), .int .i64 k] w fun e w' => e = .returned (.int .u64 ((roundN a k : Nat) : Int)) ∧ Below w.heap.size w w') := by have := round_any (roundN a k) k (round_lt a k ha); rw [round_twice a k ha] at this; exact this
  generalize ofN a3 = z at *
  generalize roundN a k = r at *
  have m1 := min_any a b ha hb
  have m2 := max_any a b ha hb
  by_cases h1 : isNone a
  · by_cases h2 : isNone b
    · have e1 : pickN true a b = 9221120237041090560 := by unfold pickN; rw [if_pos h1, if_pos h2]; rfl
      have e2 : pickN false a b = 9221120237041090560 := by unfold pickN; rw [if_pos h1, if_pos h2]; rfl
      rw [e1] at m1
      rw [e2] at m2
      have P1 : Hid (∀ w, Calls Try.prog 22 #[.int .u64 (a : Int), .int .u64 (b : Int)] w fun e w' => e = .returned (.int .u64 9221120237041090560) ∧ Below w.heap.size w w') := m1
      have P2 : Hid (∀ w, Calls Try.prog 24 #[.int .u64 (a : Int), .int .u64 (b : Int)] w fun e w' => e = .returned (.int .u64 9221120237041090560) ∧ Below w.heap.size w w') := m2
      have C1 : Hid (∀ w, Calls Try.prog 10 #[.int .u64 (a : Int)] w fun e w' => e = .returned (.int .i64 4) ∧ w' = w) := rclass_none a ha h1
      have C2 : Hid (∀ w, Calls Try.prog 10 #[.int .u64 (b : Int)] w fun e w' => e = .returned (.int .i64 4) ∧ w' = w) := rclass_none b hb h2
      clear e1 e2 m1 m2 h1 h2 ha hb b3 b3'
      go_enter Try.func7, Try.ntmps7
      go_wp2_with fail
      refine (OF.out _).mono ?_
      rintro e w1 ⟨rfl, rfl⟩
      go_wp2_with fail
      refine (IN.out _).mono ?_
      rintro e w2 ⟨rfl, c⟩
      have d := c
      clear c
      go_wp2_with fail
      refine (R1.out _).mono ?_
      rintro e w3 ⟨rfl, c⟩
      replace d := d.trans (c.mono d.size)
      clear c
      go_wp2_with fail
      refine (R2.out _).mono ?_
      rintro e w4 ⟨rfl, c⟩
      replace d := d.trans (c.mono d.size)
      clear c
      go_wp2_with fail
      refine (P1.out _).mono ?_
      rintro e w5 ⟨rfl, c⟩
      replace d := d.trans (c.mono d.size)
      clear c
      go_wp2_with fail
      refine (P2.out _).mono ?_
      rintro e w6 ⟨rfl, c⟩
      replace d := d.trans (c.mono d.size)
      clear c
      go_wp2_with fail
      refine (C1.out _).mono ?_
      rintro e w7 ⟨rfl, rfl⟩
      go_wp2_with fail
      refine (C1.out _).mono ?_
      rintro e w8 ⟨rfl, rfl⟩
      go_wp2_with fail
      refine (C2.out _).mono ?_
      rintro e w9 ⟨rfl, rfl⟩
      go_wp2_with fail
      refine (AW.out _).mono ?_
      rintro e w10 ⟨rfl, c⟩
      replace d := d.trans (c.mono d.size)
      clear c
      go_wp2
      go_ret
      exact ⟨rfl, d⟩
    · have k2 := class_beq b h2
      have k3 : ((4 : Int) != (classN b : Int)) = true := by
        have : (classN b : Int) ≠ 4 := by simpa using k2
        simp; omega
      have P1 : Hid (∀ w, Calls Try.prog 22 #[.int .u64 (a : Int), .int .u64 (b : Int)] w fun e w' => e = .returned (.int .u64 ((pickN true a b : Nat) : Int)) ∧ Below w.heap.size w w') := m1
      have P2 : Hid (∀ w, Calls Try.prog 24 #[.int .u64 (a : Int), .int .u64 (b : Int)] w fun e w' => e = .returned (.int .u64 ((pickN false a b : Nat) : Int)) ∧ Below w.heap.size w w') := m2
      have C1 : Hid (∀ w, Calls Try.prog 10 #[.int .u64 (a : Int)] w fun e w' => e = .returned (.int .i64 4) ∧ w' = w) := rclass_none a ha h1
      have C2 : Hid (∀ w, Calls Try.prog 10 #[.int .u64 (b : Int)] w fun e w' => e = .returned (.int .i64 (classN b : Nat)) ∧ w' = w) := rclass_any b hb
      generalize pickN true a b = s at *
      generalize pickN false a b = t at *
      generalize classN b = cb at *
      clear m1 m2 h1 h2 ha hb b3 b3'
      go_enter Try.func7, Try.ntmps7
      go_wp2_with fail
      refine (OF.out _).mono ?_
      rintro e w1 ⟨rfl, rfl⟩
      go_wp2_with fail
      refine (IN.out _).mono ?_
      rintro e w2 ⟨rfl, c⟩
      have d := c
      clear c
      go_wp2_with fail
      refine (R1.out _).mono ?_
      rintro e w3 ⟨rfl, c⟩
      replace d := d.trans (c.mono d.size)
      clear c
      go_wp2_with fail
      refine (R2.out _).mono ?_
      rintro e w4 ⟨rfl, c⟩
      replace d := d.trans (c.mono d.size)
      clear c
      go_wp2_with fail
      refine (P1.out _).mono ?_
      rintro e w5 ⟨rfl, c⟩
      replace d := d.trans (c.mono d.size)
      clear c
      go_wp2_with fail
      refine (P2.out _).mono ?_
      rintro e w6 ⟨rfl, c⟩
      replace d := d.trans (c.mono d.size)
      clear c
      go_wp2_with fail
      refine (C1.out _).mono ?_
      rintro e w7 ⟨rfl, rfl⟩
      go_wp2_with fail
      refine (C1.out _).mono ?_
      rintro e w8 ⟨rfl, rfl⟩
      go_wp2_with fail
      refine (C2.out _).mono ?_
      rintro e w9 ⟨rfl, rfl⟩
      go_wp2_with fail
      refine (AW.out _).mono ?_
      rintro e w10 ⟨rfl, c⟩
      replace d := d.trans (c.mono d.size)
      clear c
      go_wp2
      go_ret
      exact ⟨rfl, d⟩
  by_cases h2 : isNone b
  · have k1 := class_beq a h1
    have k3 : ((classN a : Int) != (4 : Int)) = true := by rw [bne, k1]; rfl
    have P1 : Hid (∀ w, Calls Try.prog 22 #[.int .u64 (a : Int), .int .u64 (b : Int)] w fun e w' => e = .returned (.int .u64 ((pickN true a b : Nat) : Int)) ∧ Below w.heap.size w w') := m1
    have P2 : Hid (∀ w, Calls Try.prog 24 #[.int .u64 (a : Int), .int .u64 (b : Int)] w fun e w' => e = .returned (.int .u64 ((pickN false a b : Nat) : Int)) ∧ Below w.heap.size w w') := m2
    have C1 : Hid (∀ w, Calls Try.prog 10 #[.int .u64 (a : Int)] w fun e w' => e = .returned (.int .i64 (classN a : Nat)) ∧ w' = w) := rclass_any a ha
    have C2 : Hid (∀ w, Calls Try.prog 10 #[.int .u64 (b : Int)] w fun e w' => e = .returned (.int .i64 4) ∧ w' = w) := rclass_none b hb h2
    generalize pickN true a b = s at *
    generalize pickN false a b = t at *
    generalize classN a = ca at *
    clear m1 m2 h1 h2 ha hb b3 b3'
    go_enter Try.func7, Try.ntmps7
    go_wp2_with fail
    refine (OF.out _).mono ?_
    rintro e w1 ⟨rfl, rfl⟩
    go_wp2_with fail
    refine (IN.out _).mono ?_
    rintro e w2 ⟨rfl, c⟩
    have d := c
    clear c
    go_wp2_with fail
    refine (R1.out _).mono ?_
    rintro e w3 ⟨rfl, c⟩
    replace d := d.trans (c.mono d.size)
    clear c
    go_wp2_with fail
    refine (R2.out _).mono ?_
    rintro e w4 ⟨rfl, c⟩
    replace d := d.trans (c.mono d.size)
    clear c
    go_wp2_with fail
    refine (P1.out _).mono ?_
    rintro e w5 ⟨rfl, c⟩
    replace d := d.trans (c.mono d.size)
    clear c
    go_wp2_with fail
    refine (P2.out _).mono ?_
    rintro e w6 ⟨rfl, c⟩
    replace d := d.trans (c.mono d.size)
    clear c
    go_wp2_with fail
    refine (C1.out _).mono ?_
    rintro e w7 ⟨rfl, rfl⟩
    go_wp2_with fail
    refine (C2.out _).mono ?_
    rintro e w8 ⟨rfl, rfl⟩
    go_wp2_with fail
    refine (C1.out _).mono ?_
    rintro e w9 ⟨rfl, rfl⟩
    go_wp2_with fail
    refine (C2.out _).mono ?_
    rintro e w10 ⟨rfl, rfl⟩
    go_wp2_with fail
    refine (AW.out _).mono ?_
    rintro e w11 ⟨rfl, c⟩
    replace d := d.trans (c.mono d.size)
    clear c
    go_wp2
    go_ret
    exact ⟨rfl, d⟩
  have k1 := class_beq a h1
  have k2 := class_beq b h2
  have C1 : Hid (∀ w, Calls Try.prog 10 #[.int .u64 (a : Int)] w fun e w' => e = .returned (.int .i64 (classN a : Nat)) ∧ w' = w) := rclass_any a ha
  have C2 : Hid (∀ w, Calls Try.prog 10 #[.int .u64 (b : Int)] w fun e w' => e = .returned (.int .i64 (classN b : Nat)) ∧ w' = w) := rclass_any b hb
  have o1 := rorder_any a b ha hb
  have o2 := rorder_any b a hb ha
  have v1 := ways a b ha hb true
  have v2 := ways a b ha hb false
  have tt := order_turn a b
  generalize classN a = ca at *
  generalize classN b = cb at *
  rcases v1 with ⟨g, -, -⟩ | ⟨-, -, g, p1⟩ | ⟨-, -, g, p1⟩ | ⟨-, -, g, p1⟩
  · exact absurd g (fun h => h.elim h1 h2)
  · have p2 : pickN false a b = b := by rcases v2 with ⟨-, q, -⟩ | ⟨-, -, q, p⟩ | ⟨-, -, q, -⟩ | ⟨-, -, q, -⟩ <;> first | (exfalso; omega) | exact p
    rw [p1] at m1
    rw [p2] at m2
    rw [g] at o1
    have P1 : Hid (∀ w, Calls Try.prog 22 #[.int .u64 (a : Int), .int .u64 (b : Int)] w fun e w' => e = .returned (.int .u64 (a : Int)) ∧ Below w.heap.size w w') := m1
    have P2 : Hid (∀ w, Calls Try.prog 24 #[.int .u64 (a : Int), .int .u64 (b : Int)] w fun e w' => e = .returned (.int .u64 (b : Int)) ∧ Below w.heap.size w w') := m2
    have O : Hid (∀ w, Calls Try.prog 12 #[.int .u64 (a : Int), .int .u64 (b : Int)] w fun e w' => e = .returned (.int .i64 (-1)) ∧ w' = w) := o1
    clear m1 m2 o1 o2 v2 tt g p1 p2 h1 h2 ha hb b3 b3'
    go_enter Try.func7, Try.ntmps7
    go_wp2_with fail
    refine (OF.out _).mono ?_
    rintro e w1 ⟨rfl, rfl⟩
    go_wp2_with fail
    refine (IN.out _).mono ?_
    rintro e w2 ⟨rfl, c⟩
    have d := c
    clear c
    go_wp2_with fail
    refine (R1.out _).mono ?_
    rintro e w3 ⟨rfl, c⟩
    replace d := d.trans (c.mono d.size)
    clear c
    go_wp2_with fail
    refine (R2.out _).mono ?_
    rintro e w4 ⟨rfl, c⟩
    replace d := d.trans (c.mono d.size)
    clear c
    go_wp2_with fail
    refine (P1.out _).mono ?_
    rintro e w5 ⟨rfl, c⟩
    replace d := d.trans (c.mono d.size)
    clear c
    go_wp2_with fail
    refine (P2.out _).mono ?_
    rintro e w6 ⟨rfl, c⟩
    replace d := d.trans (c.mono d.size)
    clear c
    go_wp2_with fail
    refine (C1.out _).mono ?_
    rintro e w7 ⟨rfl, rfl⟩
    go_wp2_with fail
    refine (C2.out _).mono ?_
    rintro e w8 ⟨rfl, rfl⟩
    go_wp2_with fail
    refine (O.out _).mono ?_
    rintro e w9 ⟨rfl, rfl⟩
    go_wp2_with fail
    refine (AW.out _).mono ?_
    rintro e w10 ⟨rfl, c⟩
    replace d := d.trans (c.mono d.size)
    clear c
    go_wp2
    go_ret
    exact ⟨rfl, d⟩
  · have p2 : pickN false a b = a := by rcases v2 with ⟨-, q, -⟩ | ⟨-, -, q, -⟩ | ⟨-, -, q, p⟩ | ⟨-, -, q, -⟩ <;> first | (exfalso; omega) | exact p
    have q2 : orderN b a = -1 := by omega
    have ne : (((b : Nat) : Int) == ((a : Nat) : Int)) = false := by
      have : b ≠ a := by rintro rfl; omega
      simp; omega
    rw [p1] at m1
    rw [p2] at m2
    rw [q2] at o2
    have P1 : Hid (∀ w, Calls Try.prog 22 #[.int .u64 (a : Int), .int .u64 (b : Int)] w fun e w' => e = .returned (.int .u64 (b : Int)) ∧ Below w.heap.size w w') := m1
    have P2 : Hid (∀ w, Calls Try.prog 24 #[.int .u64 (a : Int), .int .u64 (b : Int)] w fun e w' => e = .returned (.int .u64 (a : Int)) ∧ Below w.heap.size w w') := m2
    have O : Hid (∀ w, Calls Try.prog 12 #[.int .u64 (b : Int), .int .u64 (a : Int)] w fun e w' => e = .returned (.int .i64 (-1)) ∧ w' = w) := o2
    clear m1 m2 o1 o2 v2 tt g p1 p2 q2 h1 h2 ha hb b3 b3'
    go_enter Try.func7, Try.ntmps7
    go_wp2_with fail
    refine (OF.out _).mono ?_
    rintro e w1 ⟨rfl, rfl⟩
    go_wp2_with fail
    refine (IN.out _).mono ?_
    rintro e w2 ⟨rfl, c⟩
    have d := c
    clear c
    go_wp2_with fail
    refine (R1.out _).mono ?_
    rintro e w3 ⟨rfl, c⟩
    replace d := d.trans (c.mono d.size)
    clear c
    go_wp2_with fail
    refine (R2.out _).mono ?_
    rintro e w4 ⟨rfl, c⟩
    replace d := d.trans (c.mono d.size)
    clear c
    go_wp2_with fail
    refine (P1.out _).mono ?_
    rintro e w5 ⟨rfl, c⟩
    replace d := d.trans (c.mono d.size)
    clear c
    go_wp2_with fail
    refine (P2.out _).mono ?_
    rintro e w6 ⟨rfl, c⟩
    replace d := d.trans (c.mono d.size)
    clear c
    go_wp2_with fail
    refine (C1.out _).mono ?_
    rintro e w7 ⟨rfl, rfl⟩
    go_wp2_with fail
    refine (C2.out _).mono ?_
    rintro e w8 ⟨rfl, rfl⟩
    go_wp2_with fail
    refine (O.out _).mono ?_
    rintro e w9 ⟨rfl, rfl⟩
    go_wp2_with fail
    refine (AW.out _).mono ?_
    rintro e w10 ⟨rfl, c⟩
    replace d := d.trans (c.mono d.size)
    clear c
    go_wp2
    go_ret
    exact ⟨rfl, d⟩
  · have p2 : (a = b ∧ pickN false a b = a) ∨ (a = 0 ∧ b = 9223372036854775808 ∧ pickN false a b = 0) ∨ (a = 9223372036854775808 ∧ b = 0 ∧ pickN false a b = 0) := by
      rcases v2 with ⟨-, q, -⟩ | ⟨-, -, q, -⟩ | ⟨-, -, q, -⟩ | ⟨-, -, -, p⟩ <;> first | (exfalso; omega) | exact p
    rw [g] at o1
    rcases p1 with ⟨rfl, p1⟩ | ⟨rfl, rfl, p1⟩ | ⟨rfl, rfl, p1⟩
    · have p3 : pickN false a a = a := by unfold pickN; simp [h1]
      rw [p1] at m1
      rw [p3] at m2
      have P1 : Hid (∀ w, Calls Try.prog 22 #[.int .u64 (a : Int), .int .u64 (a : Int)] w fun e w' => e = .returned (.int .u64 (a : Int)) ∧ Below w.heap.size w w') := m1
      have P2 : Hid (∀ w, Calls Try.prog 24 #[.int .u64 (a : Int), .int .u64 (a : Int)] w fun e w' => e = .returned (.int .u64 (a : Int)) ∧ Below w.heap.size w w') := m2
      have O : Hid (∀ w, Calls Try.prog 12 #[.int .u64 (a : Int), .int .u64 (a : Int)] w fun e w' => e = .returned (.int .i64 0) ∧ w' = w) := o1
      clear m1 m2 o1 o2 v2 tt g p1 p2 p3 h1 h2 ha hb b3 b3'
      go_enter Try.func7, Try.ntmps7
      go_wp2_with fail
      refine (OF.out _).mono ?_
      rintro e w1 ⟨rfl, rfl⟩
      go_wp2_with fail
      refine (IN.out _).mono ?_
      rintro e w2 ⟨rfl, c⟩
      have d := c
      clear c
      go_wp2_with fail
      refine (R1.out _).mono ?_
      rintro e w3 ⟨rfl, c⟩
      replace d := d.trans (c.mono d.size)
      clear c
      go_wp2_with fail
      refine (R2.out _).mono ?_
      rintro e w4 ⟨rfl, c⟩
      replace d := d.trans (c.mono d.size)
      clear c
      go_wp2_with fail
      refine (P1.out _).mono ?_
      rintro e w5 ⟨rfl, c⟩
      replace d := d.trans (c.mono d.size)
      clear c
      go_wp2_with fail
      refine (P2.out _).mono ?_
      rintro e w6 ⟨rfl, c⟩
      replace d := d.trans (c.mono d.size)
      clear c
      go_wp2_with fail
      refine (C1.out _).mono ?_
      rintro e w7 ⟨rfl, rfl⟩
      go_wp2_with fail
      refine (C2.out _).mono ?_
      rintro e w8 ⟨rfl, rfl⟩
      go_wp2_with fail
      refine (O.out _).mono ?_
      rintro e w9 ⟨rfl, rfl⟩
      go_wp2_with fail
      refine (AW.out _).mono ?_
      rintro e w10 ⟨rfl, c⟩
      replace d := d.trans (c.mono d.size)
      clear c
      go_wp2
      go_ret
      exact ⟨rfl, d⟩
    · have p3 : pickN false 0 9223372036854775808 = 0 := by decide +kernel
      rw [p1] at m1
      rw [p3] at m2
      have o3 := rorder_any 9223372036854775808 0 (by decide) (by decide)
      rw [show orderN 9223372036854775808 0 = 0 by decide +kernel] at o3
      have P1 : Hid (∀ w, Calls Try.prog 22 #[.int .u64 0, .int .u64 9223372036854775808] w fun e w' => e = .returned (.int .u64 9223372036854775808) ∧ Below w.heap.size w w') := m1
      have P2 : Hid (∀ w, Calls Try.prog 24 #[.int .u64 0, .int .u64 9223372036854775808] w fun e w' => e = .returned (.int .u64 0) ∧ Below w.heap.size w w') := m2
      have O : Hid (∀ w, Calls Try.prog 12 #[.int .u64 9223372036854775808, .int .u64 0] w fun e w' => e = .returned (.int .i64 0) ∧ w' = w) := o3
      have R1' : Hid (∀ w, Calls Try.prog 26 #[.int .u64 0, .int .i64 k] w fun e w' => e = .returned (.int .u64 ((r : Nat) : Int)) ∧ Below w.heap.size w w') := R1
      have C1' : Hid (∀ w, Calls Try.prog 10 #[.int .u64 0] w fun e w' => e = .returned (.int .i64 (ca : Nat)) ∧ w' = w) := C1
      have C2' : Hid (∀ w, Calls Try.prog 10 #[.int .u64 9223372036854775808] w fun e w' => e = .returned (.int .i64 (cb : Nat)) ∧ w' = w) := C2
      clear m1 m2 o1 o2 o3 v2 tt g p1 p2 p3 h1 h2 ha hb b3 b3' R1 C1 C2
      go_enter Try.func7, Try.ntmps7
      go_wp2_with fail
      refine (OF.out _).mono ?_
      rintro e w1 ⟨rfl, rfl⟩
      go_wp2_with fail
      refine (IN.out _).mono ?_
      rintro e w2 ⟨rfl, c⟩
      have d := c
      clear c
      go_wp2_with fail
      refine (R1'.out _).mono ?_
      rintro e w3 ⟨rfl, c⟩
      replace d := d.trans (c.mono d.size)
      clear c
      go_wp2_with fail
      refine (R2.out _).mono ?_
      rintro e w4 ⟨rfl, c⟩
      replace d := d.trans (c.mono d.size)
      clear c
      go_wp2_with fail
      refine (P1.out _).mono ?_
      rintro e w5 ⟨rfl, c⟩
      replace d := d.trans (c.mono d.size)
      clear c
      go_wp2_with fail
      refine (P2.out _).mono ?_
      rintro e w6 ⟨rfl, c⟩
      replace d := d.trans (c.mono d.size)
      clear c
      go_wp2_with fail
      refine (C1'.out _).mono ?_
      rintro e w7 ⟨rfl, rfl⟩
      go_wp2_with fail
      refine (C2'.out _).mono ?_
      rintro e w8 ⟨rfl, rfl⟩
      go_wp2_with fail
      refine (O.out _).mono ?_
      rintro e w9 ⟨rfl, rfl⟩
      go_wp2_with fail
      refine (AW.out _).mono ?_
      rintro e w10 ⟨rfl, c⟩
      replace d := d.trans (c.mono d.size)
      clear c
      go_wp2
      go_ret
      exact ⟨rfl, d⟩
    · have p3 : pickN false 9223372036854775808 0 = 0 := by decide +kernel
      rw [p1] at m1
      rw [p3] at m2
      have o3 := rorder_any 9223372036854775808 0 (by decide) (by decide)
      rw [show orderN 9223372036854775808 0 = 0 by decide +kernel] at o3
      have P1 : Hid (∀ w, Calls Try.prog 22 #[.int .u64 9223372036854775808, .int .u64 0] w fun e w' => e = .returned (.int .u64 9223372036854775808) ∧ Below w.heap.size w w') := m1
      have P2 : Hid (∀ w, Calls Try.prog 24 #[.int .u64 9223372036854775808, .int .u64 0] w fun e w' => e = .returned (.int .u64 0) ∧ Below w.heap.size w w') := m2
      have O : Hid (∀ w, Calls Try.prog 12 #[.int .u64 9223372036854775808, .int .u64 0] w fun e w' => e = .returned (.int .i64 0) ∧ w' = w) := o3
      have R1' : Hid (∀ w, Calls Try.prog 26 #[.int .u64 9223372036854775808, .int .i64 k] w fun e w' => e = .returned (.int .u64 ((r : Nat) : Int)) ∧ Below w.heap.size w w') := R1
      have C1' : Hid (∀ w, Calls Try.prog 10 #[.int .u64 9223372036854775808] w fun e w' => e = .returned (.int .i64 (ca : Nat)) ∧ w' = w) := C1
      have C2' : Hid (∀ w, Calls Try.prog 10 #[.int .u64 0] w fun e w' => e = .returned (.int .i64 (cb : Nat)) ∧ w' = w) := C2
      clear m1 m2 o1 o2 o3 v2 tt g p1 p2 p3 h1 h2 ha hb b3 b3' R1 C1 C2
      go_enter Try.func7, Try.ntmps7
      go_wp2_with fail
      refine (OF.out _).mono ?_
      rintro e w1 ⟨rfl, rfl⟩
      go_wp2_with fail
      refine (IN.out _).mono ?_
      rintro e w2 ⟨rfl, c⟩
      have d := c
      clear c
      go_wp2_with fail
      refine (R1'.out _).mono ?_
      rintro e w3 ⟨rfl, c⟩
      replace d := d.trans (c.mono d.size)
      clear c
      go_wp2_with fail
      refine (R2.out _).mono ?_
      rintro e w4 ⟨rfl, c⟩
      replace d := d.trans (c.mono d.size)
      clear c
      go_wp2_with fail
      refine (P1.out _).mono ?_
      rintro e w5 ⟨rfl, c⟩
      replace d := d.trans (c.mono d.size)
      clear c
      go_wp2_with fail
      refine (P2.out _).mono ?_
      rintro e w6 ⟨rfl, c⟩
      replace d := d.trans (c.mono d.size)
      clear c
      go_wp2_with fail
      refine (C1'.out _).mono ?_
      rintro e w7 ⟨rfl, rfl⟩
      go_wp2_with fail
      refine (C2'.out _).mono ?_
      rintro e w8 ⟨rfl, rfl⟩
      go_wp2_with fail
      refine (O.out _).mono ?_
      rintro e w9 ⟨rfl, rfl⟩
      go_wp2_with fail
      refine (AW.out _).mono ?_
      rintro e w10 ⟨rfl, c⟩
      replace d := d.trans (c.mono d.size)
      clear c
      go_wp2
      go_ret
      exact ⟨rfl, d⟩

set_option maxRecDepth 100000 in
theorem lifted (os : Os) (started : os.Started) (H : Type) (enc : TypeId × Value → H) :
    ReturnsInHanded {} Try.checked os 7 .any (Rows.realWholeSpec.pre6 enc Try.prog Try.f7 Rows.realWholeRow.domain false) (Rows.realWholeSpec.post enc Try.prog Try.f7 false true false false) := by
  refine returnsInHanded_of_change (C := Try.checked) own started (by kernel_rfl) Try.func7
    (ChangeSpec.witness6 (enc := enc) (C := Try.checked) false ⟨#[], #[.int .u64 0, .int .u64 0, .int .u8 0, .int .i32 0], []⟩ 8 (by kernel_rfl) (by kernel_rfl) (by kernel_rfl) (by kernel_rfl)) ?_
  intro W base args ds gs before hval0 hW hcnd _
  have hval : ∀ (j : Nat) t v, Try.f7.params[j]? = some t → args[j]? = some v → Value.okWide Try.prog W .any base t v := hval0
  have hW' := hW
  obtain ⟨p, q, hA0, hV, rfl, hfz, hnd⟩ := hW
  have hA : DataW.TrodAll enc Try.prog W 0 (fun _ => true) true Try.f7.params.toList args.toList ds p := hA0
  rw [Try.params7] at hA hval
  obtain ⟨v0, vs0, d0, ds0, p0, q0, hargs, rfl, rfl, h0, r0⟩ := trodAll_cons hA
  obtain ⟨v1, vs1, d1, ds1, p1, q1, rfl, rfl, rfl, h1, r1⟩ := trodAll_cons r0
  obtain ⟨v2, vs2, d2, ds2, p2, q2, rfl, rfl, rfl, h2, r2⟩ := trodAll_cons r1
  obtain ⟨v3, vs3, d3, ds3, p3, q3, rfl, rfl, rfl, h3, r3⟩ := trodAll_cons r2
  obtain ⟨rfl, rfl, rfl⟩ := trodAll_nil r3
  obtain rfl : args = #[v0, v1, v2, v3] := by cases args; simp_all
  obtain ⟨rfl, rfl⟩ := trodVars_none hV
  obtain ⟨a0, rfl, rfl, rfl, w0⟩ := open_int Try.underlying22 (hval 0 22 v0 rfl rfl) h0
  obtain ⟨a1, rfl, rfl, rfl, w1⟩ := open_int Try.underlying22 (hval 1 22 v1 rfl rfl) h1
  obtain ⟨a2, rfl, rfl, rfl, w2⟩ := open_int Try.underlying5 (hval 2 5 v2 rfl rfl) h2
  obtain ⟨a3, rfl, rfl, rfl, w3⟩ := open_int Try.underlying21 (hval 3 21 v3 rfl rfl) h3
  clear hA0 hval0
  simp only [List.append_nil] at hW'
  refine (walk a0 a1 a2 a3 w0 w1 w2 w3 W).mono fun e W' ⟨he, hg⟩ => ?_
  subst he
  exact ⟨_, rfl, _, _, _, [], _, [], hW', (trodAll_cons_mk (shut_bool Try.underlying4 _) trodAll_mk0), (trodAll_cons_mk (shut_int Try.underlying22 w0) (trodAll_cons_mk (shut_int Try.underlying22 w1) (trodAll_cons_mk (shut_int Try.underlying5 w2) (trodAll_cons_mk (shut_int Try.underlying21 w3) trodAll_mk0)))), rfl, hg.frame _, fun h => by cases h⟩

theorem over : Rows.realWholeRow.holds Try.pinned (OpenSpec.ofChange Rows.realWholeSpec) :=
  OpenClaim.holds_of_wide 7 Try.f7 rfl rfl rfl rfl rfl rfl rfl ⟨rfl, rfl, rfl, rfl, rfl⟩ rfl rfl rfl rfl rfl (by kernel_rfl) Try.func7 (by kernel_rfl)
    (of_decide_eq_true (by kernel_rfl)) (by unfold Func.isWrapper; first | (rw [if_pos (by decide +kernel)]; kernel_rfl) | (rw [if_neg (by decide +kernel)]; exact ⟨rfl, rfl⟩))
    (fun os started H enc _ => lifted os started H enc)

end Go.Proofs.Ytlchjfdnkplmmaa.realWhole
namespace Go.Proofs.Ytlchjfdnkplmmaa
theorem realWhole_holds : Rows.RealWholeSaid := realWhole.over
end Go.Proofs.Ytlchjfdnkplmmaa
