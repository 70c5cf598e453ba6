/- Proved: for every a and b the law RealOrders answers true (sums and products do not hang on the order, by 1 a number stays, less itself it is nought unless it is infinite, comparing turns); no conditions. -/
import Derived.Test.YtlchjfdnkplmmaaRows
import Derived.Test.YtlchjfdnkplmmaaLaws
import Derived.Test.YtlchjfdnkplmmaaRpicks
import Derived.WalkKit
import Derived.ProofKit
import Derived.OpenShut
import Derived.ShutString
namespace Go.Proofs.Ytlchjfdnkplmmaa.realOrders
open Go.ChangeShapes Go.WideShapes Go.ChangeAt Go.RowKit
open Go.ChangeMaps (open_string shut_string)
set_option linter.unusedVariables false

theorem own : ownKnob Try.prog.godebug = none := by kernel_rfl

set_option maxHeartbeats 1000000 in
theorem walk (a0 : Int) (a1 : Int) (w0 : (Lit.int .u64 a0).wf = true) (w1 : (Lit.int .u64 a1).wf = true) (w : World) :
    Calls Try.prog 6 #[.int .u64 a0, .int .u64 a1] w fun e w' => e = .returned (.bool true) ∧ Below w.heap.size w w' := by
  obtain ⟨b0, b0'⟩ := bounds_u64 w0
  obtain ⟨b1, b1'⟩ := bounds_u64 w1
  obtain ⟨a, rfl⟩ := Int.eq_ofNat_of_zero_le b0
  obtain ⟨b, rfl⟩ := Int.eq_ofNat_of_zero_le b1
  have ha : a < 18446744073709551616 := by omega
  have hb : b < 18446744073709551616 := by omega
  clear w0 w1 b0 b1 b0' b1'
  have AW : Hid (∀ w, Calls Try.prog 13 #[] w fun e w' => e = .returned (.bool true) ∧ Below w.heap.size w w') := awake_any
  have A1 : Hid (∀ w, Calls Try.prog 14 #[.int .u64 (a : Int), .int .u64 (b : Int)] w fun e w' => e = .returned (.int .u64 ((opN .add a b : Nat) : Int)) ∧ Below w.heap.size w w') := add_any a b ha hb
  have A2 : Hid (∀ w, Calls Try.prog 14 #[.int .u64 (b : Int), .int .u64 (a : Int)] w fun e w' => e = .returned (.int .u64 ((opN .add a b : Nat) : Int)) ∧ Below w.heap.size w w') := by rw [op_add_comm a b]; exact add_any b a hb ha
  have M1 : Hid (∀ w, Calls Try.prog 16 #[.int .u64 (a : Int), .int .u64 (b : Int)] w fun e w' => e = .returned (.int .u64 ((opN .mul a b : Nat) : Int)) ∧ Below w.heap.size w w') := mul_any a b ha hb
  have M2 : Hid (∀ w, Calls Try.prog 16 #[.int .u64 (b : Int), .int .u64 (a : Int)] w fun e w' => e = .returned (.int .u64 ((opN .mul a b : Nat) : Int)) ∧ Below w.heap.size w w') := by rw [op_mul_comm a b]; exact mul_any b a hb ha
  have o1 := order_any a b ha hb
  have o2 := order_any b a hb ha
  by_cases hn : isNone a
  · obtain ⟨g1, g2⟩ : orderN a b = 2 ∧ orderN b a = 2 := by unfold orderN; exact ⟨if_pos (Or.inl hn), if_pos (Or.inr hn)⟩
    rw [g1] at o1
    rw [g2] at o2
    have O1 : Hid (∀ w, Calls Try.prog 11 #[.int .u64 (a : Int), .int .u64 (b : Int)] w fun e w' => e = .returned (.int .i64 2) ∧ Below w.heap.size w w') := o1
    have O2 : Hid (∀ w, Calls Try.prog 11 #[.int .u64 (b : Int), .int .u64 (a : Int)] w fun e w' => e = .returned (.int .i64 2) ∧ Below w.heap.size w w') := o2
    have O3 : Hid (∀ w, Calls Try.prog 11 #[.int .u64 (a : Int), .int .u64 (a : Int)] w fun e w' => e = .returned (.int .i64 2) ∧ Below w.heap.size w w') := by have := order_any a a ha ha; rw [order_self a hn] at this; exact this
    have C1 : Hid (∀ w, Calls Try.prog 10 #[.int .u64 (a : Int)] w fun e w' => e = .returned (.int .i64 4) ∧ w' = w) := by have := rclass_any a ha; rw [(none_class a).1 hn] at this; exact this
    have C2 : Hid (∀ w, Calls Try.prog 10 #[.int .u64 ((opN .add a b : Nat) : Int)] w fun e w' => e = .returned (.int .i64 4) ∧ w' = w) := by have := rclass_any (opN .add a b) (op_lt .add a b); rw [op_none .add (by simp) a b (Or.inl hn), show classN 9221120237041090560 = 4 by decide +kernel] at this; rw [op_none .add (by simp) a b (Or.inl hn)]; exact this
    clear o1 o2 g1 g2 hn ha hb
    generalize opN .add a b = x at *
    generalize opN .mul a b = y at *
    go_enter Try.func6, Try.ntmps6
    go_wp2_with fail
    refine (C1.out _).mono ?_
    rintro e w1 ⟨rfl, rfl⟩
    go_wp2_with fail
    refine (A1.out _).mono ?_
    rintro e w2 ⟨rfl, c⟩
    have d := c
    clear c
    go_wp2_with fail
    refine (A2.out _).mono ?_
    rintro e w3 ⟨rfl, c⟩
    replace d := d.trans (c.mono d.size)
    clear c
    go_wp2_with fail
    refine (M1.out _).mono ?_
    rintro e w4 ⟨rfl, c⟩
    replace d := d.trans (c.mono d.size)
    clear c
    go_wp2_with fail
    refine (M2.out _).mono ?_
    rintro e w5 ⟨rfl, c⟩
    replace d := d.trans (c.mono d.size)
    clear c
    go_wp2_with fail
    refine (O1.out _).mono ?_
    rintro e w6 ⟨rfl, c⟩
    replace d := d.trans (c.mono d.size)
    clear c
    go_wp2_with fail
    refine (O2.out _).mono ?_
    rintro e w7 ⟨rfl, c⟩
    replace d := d.trans (c.mono d.size)
    clear c
    go_wp2_with fail
    refine (A1.out _).mono ?_
    rintro e w8 ⟨rfl, c⟩
    replace d := d.trans (c.mono d.size)
    clear c
    go_wp2_with fail
    refine (C2.out _).mono ?_
    rintro e w9 ⟨rfl, rfl⟩
    go_wp2_with fail
    refine (O3.out _).mono ?_
    rintro e w10 ⟨rfl, c⟩
    replace d := d.trans (c.mono d.size)
    clear c
    go_wp2_with fail
    refine (AW.out _).mono ?_
    rintro e w11 ⟨rfl, c⟩
    replace d := d.trans (c.mono d.size)
    clear c
    go_wp2
    go_ret
    exact ⟨rfl, d⟩
  · have kn := class_beq a hn
    have q1 := op_one a ha hn
    have N1 : Hid (∀ w, Calls Try.prog 16 #[.int .u64 (a : Int), .int .u64 4607182418800017408] w fun e w' => e = .returned (.int .u64 (a : Int)) ∧ Below w.heap.size w w') := by have := mul_any a 4607182418800017408 ha (by decide); rw [q1.1] at this; exact this
    have N2 : Hid (∀ w, Calls Try.prog 18 #[.int .u64 (a : Int), .int .u64 4607182418800017408] w fun e w' => e = .returned (.int .u64 (a : Int)) ∧ Below w.heap.size w w') := by have := div_any a 4607182418800017408 ha (by decide); rw [q1.2] at this; exact this
    have C1 : Hid (∀ w, Calls Try.prog 10 #[.int .u64 (a : Int)] w fun e w' => e = .returned (.int .i64 (classN a : Nat)) ∧ w' = w) := rclass_any a ha
    have hx := xor_flip a ha
    have hfl := flip_lt a ha
    rcases not_none_cases a hn with hf | hf
    · have kc : ((classN a : Int) == 3) = false := by
        have : classN a ≠ 3 := by unfold classN; unfold infR at hf; (repeat' split) <;> omega
        simp; omega
      have dd := add_any a (flip a) ha hfl
      rw [op_less_fin a ha hf] at dd
      have D1 : Hid (∀ w, Calls Try.prog 14 #[.int .u64 (a : Int), .int .u64 ((flip a : Nat) : Int)] w fun e w' => e = .returned (.int .u64 0) ∧ Below w.heap.size w w') := dd
      have kc' : ((classN a : Int) != 3) = true := by rw [bne, kc]; rfl
      generalize opN .add a b = x at *
      generalize opN .mul a b = y at *
      generalize flip a = fa at *
      generalize classN a = ca at *
      rcases order_turn a b with ⟨g1, g2⟩ | ⟨g1, g2⟩ | ⟨g1, g2⟩ | ⟨g1, g2⟩
      · rw [g1] at o1
        rw [g2] at o2
        have O1 : Hid (∀ w, Calls Try.prog 11 #[.int .u64 (a : Int), .int .u64 (b : Int)] w fun e w' => e = .returned (.int .i64 2) ∧ Below w.heap.size w w') := o1
        have O2 : Hid (∀ w, Calls Try.prog 11 #[.int .u64 (b : Int), .int .u64 (a : Int)] w fun e w' => e = .returned (.int .i64 2) ∧ Below w.heap.size w w') := o2
        clear o1 o2 g1 g2 hn ha hb hf dd hfl q1
        go_enter Try.func6, Try.ntmps6
        go_wp2_with fail
        refine (C1.out _).mono ?_
        rintro e w1 ⟨rfl, rfl⟩
        go_wp2_with fail
        refine (A1.out _).mono ?_
        rintro e w2 ⟨rfl, c⟩
        have d := c
        clear c
        go_wp2_with fail
        refine (A2.out _).mono ?_
        rintro e w3 ⟨rfl, c⟩
        replace d := d.trans (c.mono d.size)
        clear c
        go_wp2_with fail
        refine (M1.out _).mono ?_
        rintro e w4 ⟨rfl, c⟩
        replace d := d.trans (c.mono d.size)
        clear c
        go_wp2_with fail
        refine (M2.out _).mono ?_
        rintro e w5 ⟨rfl, c⟩
        replace d := d.trans (c.mono d.size)
        clear c
        go_wp2_with fail
        refine (O1.out _).mono ?_
        rintro e w6 ⟨rfl, c⟩
        replace d := d.trans (c.mono d.size)
        clear c
        go_wp2_with fail
        refine (O2.out _).mono ?_
        rintro e w7 ⟨rfl, c⟩
        replace d := d.trans (c.mono d.size)
        clear c
        go_wp2_with fail
        refine (D1.out _).mono ?_
        rintro e w8 ⟨rfl, c⟩
        replace d := d.trans (c.mono d.size)
        clear c
        go_wp2_with fail
        refine (C1.out _).mono ?_
        rintro e w9 ⟨rfl, rfl⟩
        go_wp2_with fail
        refine (C1.out _).mono ?_
        rintro e w10 ⟨rfl, rfl⟩
        go_wp2_with fail
        refine (N1.out _).mono ?_
        rintro e w11 ⟨rfl, c⟩
        replace d := d.trans (c.mono d.size)
        clear c
        go_wp2_with fail
        refine (N2.out _).mono ?_
        rintro e w12 ⟨rfl, c⟩
        replace d := d.trans (c.mono d.size)
        clear c
        go_wp2_with fail
        refine (AW.out _).mono ?_
        rintro e w13 ⟨rfl, c⟩
        replace d := d.trans (c.mono d.size)
        clear c
        go_wp2
        go_ret
        exact ⟨rfl, d⟩
      · rw [g1] at o1
        rw [g2] at o2
        have O1 : Hid (∀ w, Calls Try.prog 11 #[.int .u64 (a : Int), .int .u64 (b : Int)] w fun e w' => e = .returned (.int .i64 (-1)) ∧ Below w.heap.size w w') := o1
        have O2 : Hid (∀ w, Calls Try.prog 11 #[.int .u64 (b : Int), .int .u64 (a : Int)] w fun e w' => e = .returned (.int .i64 1) ∧ Below w.heap.size w w') := o2
        clear o1 o2 g1 g2 hn ha hb hf dd hfl q1
        go_enter Try.func6, Try.ntmps6
        go_wp2_with fail
        refine (C1.out _).mono ?_
        rintro e w1 ⟨rfl, rfl⟩
        go_wp2_with fail
        refine (A1.out _).mono ?_
        rintro e w2 ⟨rfl, c⟩
        have d := c
        clear c
        go_wp2_with fail
        refine (A2.out _).mono ?_
        rintro e w3 ⟨rfl, c⟩
        replace d := d.trans (c.mono d.size)
        clear c
        go_wp2_with fail
        refine (M1.out _).mono ?_
        rintro e w4 ⟨rfl, c⟩
        replace d := d.trans (c.mono d.size)
        clear c
        go_wp2_with fail
        refine (M2.out _).mono ?_
        rintro e w5 ⟨rfl, c⟩
        replace d := d.trans (c.mono d.size)
        clear c
        go_wp2_with fail
        refine (O1.out _).mono ?_
        rintro e w6 ⟨rfl, c⟩
        replace d := d.trans (c.mono d.size)
        clear c
        go_wp2_with fail
        refine (O2.out _).mono ?_
        rintro e w7 ⟨rfl, c⟩
        replace d := d.trans (c.mono d.size)
        clear c
        go_wp2_with fail
        refine (D1.out _).mono ?_
        rintro e w8 ⟨rfl, c⟩
        replace d := d.trans (c.mono d.size)
        clear c
        go_wp2_with fail
        refine (C1.out _).mono ?_
        rintro e w9 ⟨rfl, rfl⟩
        go_wp2_with fail
        refine (C1.out _).mono ?_
        rintro e w10 ⟨rfl, rfl⟩
        go_wp2_with fail
        refine (N1.out _).mono ?_
        rintro e w11 ⟨rfl, c⟩
        replace d := d.trans (c.mono d.size)
        clear c
        go_wp2_with fail
        refine (N2.out _).mono ?_
        rintro e w12 ⟨rfl, c⟩
        replace d := d.trans (c.mono d.size)
        clear c
        go_wp2_with fail
        refine (AW.out _).mono ?_
        rintro e w13 ⟨rfl, c⟩
        replace d := d.trans (c.mono d.size)
        clear c
        go_wp2
        go_ret
        exact ⟨rfl, d⟩
      · rw [g1] at o1
        rw [g2] at o2
        have O1 : Hid (∀ w, Calls Try.prog 11 #[.int .u64 (a : Int), .int .u64 (b : Int)] w fun e w' => e = .returned (.int .i64 1) ∧ Below w.heap.size w w') := o1
        have O2 : Hid (∀ w, Calls Try.prog 11 #[.int .u64 (b : Int), .int .u64 (a : Int)] w fun e w' => e = .returned (.int .i64 (-1)) ∧ Below w.heap.size w w') := o2
        clear o1 o2 g1 g2 hn ha hb hf dd hfl q1
        go_enter Try.func6, Try.ntmps6
        go_wp2_with fail
        refine (C1.out _).mono ?_
        rintro e w1 ⟨rfl, rfl⟩
        go_wp2_with fail
        refine (A1.out _).mono ?_
        rintro e w2 ⟨rfl, c⟩
        have d := c
        clear c
        go_wp2_with fail
        refine (A2.out _).mono ?_
        rintro e w3 ⟨rfl, c⟩
        replace d := d.trans (c.mono d.size)
        clear c
        go_wp2_with fail
        refine (M1.out _).mono ?_
        rintro e w4 ⟨rfl, c⟩
        replace d := d.trans (c.mono d.size)
        clear c
        go_wp2_with fail
        refine (M2.out _).mono ?_
        rintro e w5 ⟨rfl, c⟩
        replace d := d.trans (c.mono d.size)
        clear c
        go_wp2_with fail
        refine (O1.out _).mono ?_
        rintro e w6 ⟨rfl, c⟩
        replace d := d.trans (c.mono d.size)
        clear c
        go_wp2_with fail
        refine (O2.out _).mono ?_
        rintro e w7 ⟨rfl, c⟩
        replace d := d.trans (c.mono d.size)
        clear c
        go_wp2_with fail
        refine (D1.out _).mono ?_
        rintro e w8 ⟨rfl, c⟩
        replace d := d.trans (c.mono d.size)
        clear c
        go_wp2_with fail
        refine (C1.out _).mono ?_
        rintro e w9 ⟨rfl, rfl⟩
        go_wp2_with fail
        refine (C1.out _).mono ?_
        rintro e w10 ⟨rfl, rfl⟩
        go_wp2_with fail
        refine (N1.out _).mono ?_
        rintro e w11 ⟨rfl, c⟩
        replace d := d.trans (c.mono d.size)
        clear c
        go_wp2_with fail
        refine (N2.out _).mono ?_
        rintro e w12 ⟨rfl, c⟩
        replace d := d.trans (c.mono d.size)
        clear c
        go_wp2_with fail
        refine (AW.out _).mono ?_
        rintro e w13 ⟨rfl, c⟩
        replace d := d.trans (c.mono d.size)
        clear c
        go_wp2
        go_ret
        exact ⟨rfl, d⟩
      · rw [g1] at o1
        rw [g2] at o2
        have O1 : Hid (∀ w, Calls Try.prog 11 #[.int .u64 (a : Int), .int .u64 (b : Int)] w fun e w' => e = .returned (.int .i64 0) ∧ Below w.heap.size w w') := o1
        have O2 : Hid (∀ w, Calls Try.prog 11 #[.int .u64 (b : Int), .int .u64 (a : Int)] w fun e w' => e = .returned (.int .i64 0) ∧ Below w.heap.size w w') := o2
        clear o1 o2 g1 g2 hn ha hb hf dd hfl q1
        go_enter Try.func6, Try.ntmps6
        go_wp2_with fail
        refine (C1.out _).mono ?_
        rintro e w1 ⟨rfl, rfl⟩
        go_wp2_with fail
        refine (A1.out _).mono ?_
        rintro e w2 ⟨rfl, c⟩
        have d := c
        clear c
        go_wp2_with fail
        refine (A2.out _).mono ?_
        rintro e w3 ⟨rfl, c⟩
        replace d := d.trans (c.mono d.size)
        clear c
        go_wp2_with fail
        refine (M1.out _).mono ?_
        rintro e w4 ⟨rfl, c⟩
        replace d := d.trans (c.mono d.size)
        clear c
        go_wp2_with fail
        refine (M2.out _).mono ?_
        rintro e w5 ⟨rfl, c⟩
        replace d := d.trans (c.mono d.size)
        clear c
        go_wp2_with fail
        refine (O1.out _).mono ?_
        rintro e w6 ⟨rfl, c⟩
        replace d := d.trans (c.mono d.size)
        clear c
        go_wp2_with fail
        refine (O2.out _).mono ?_
        rintro e w7 ⟨rfl, c⟩
        replace d := d.trans (c.mono d.size)
        clear c
        go_wp2_with fail
        refine (D1.out _).mono ?_
        rintro e w8 ⟨rfl, c⟩
        replace d := d.trans (c.mono d.size)
        clear c
        go_wp2_with fail
        refine (C1.out _).mono ?_
        rintro e w9 ⟨rfl, rfl⟩
        go_wp2_with fail
        refine (C1.out _).mono ?_
        rintro e w10 ⟨rfl, rfl⟩
        go_wp2_with fail
        refine (N1.out _).mono ?_
        rintro e w11 ⟨rfl, c⟩
        replace d := d.trans (c.mono d.size)
        clear c
        go_wp2_with fail
        refine (N2.out _).mono ?_
        rintro e w12 ⟨rfl, c⟩
        replace d := d.trans (c.mono d.size)
        clear c
        go_wp2_with fail
        refine (AW.out _).mono ?_
        rintro e w13 ⟨rfl, c⟩
        replace d := d.trans (c.mono d.size)
        clear c
        go_wp2
        go_ret
        exact ⟨rfl, d⟩
    · have kc : classN a = 3 := by unfold classN; unfold infR at hf; (repeat' split) <;> omega
      have dd := add_any a (flip a) ha hfl
      rw [op_less_inf a ha hf] at dd
      have D1 : Hid (∀ w, Calls Try.prog 14 #[.int .u64 (a : Int), .int .u64 ((flip a : Nat) : Int)] w fun e w' => e = .returned (.int .u64 9221120237041090560) ∧ Below w.heap.size w w') := dd
      have C2 : Hid (∀ w, Calls Try.prog 10 #[.int .u64 9221120237041090560] w fun e w' => e = .returned (.int .i64 4) ∧ w' = w) := rclass_any 9221120237041090560 (by decide)
      rw [kc] at C1 kn
      have C1' : Hid (∀ w, Calls Try.prog 10 #[.int .u64 (a : Int)] w fun e w' => e = .returned (.int .i64 3) ∧ w' = w) := C1
      generalize opN .add a b = x at *
      generalize opN .mul a b = y at *
      generalize flip a = fa at *
      rcases order_turn a b with ⟨g1, g2⟩ | ⟨g1, g2⟩ | ⟨g1, g2⟩ | ⟨g1, g2⟩
      · rw [g1] at o1
        rw [g2] at o2
        have O1 : Hid (∀ w, Calls Try.prog 11 #[.int .u64 (a : Int), .int .u64 (b : Int)] w fun e w' => e = .returned (.int .i64 2) ∧ Below w.heap.size w w') := o1
        have O2 : Hid (∀ w, Calls Try.prog 11 #[.int .u64 (b : Int), .int .u64 (a : Int)] w fun e w' => e = .returned (.int .i64 2) ∧ Below w.heap.size w w') := o2
        clear o1 o2 g1 g2 hn ha hb hf dd hfl q1
        clear C1 kn kc
        go_enter Try.func6, Try.ntmps6
        go_wp2_with fail
        refine (C1'.out _).mono ?_
        rintro e w1 ⟨rfl, rfl⟩
        go_wp2_with fail
        refine (A1.out _).mono ?_
        rintro e w2 ⟨rfl, c⟩
        have d := c
        clear c
        go_wp2_with fail
        refine (A2.out _).mono ?_
        rintro e w3 ⟨rfl, c⟩
        replace d := d.trans (c.mono d.size)
        clear c
        go_wp2_with fail
        refine (M1.out _).mono ?_
        rintro e w4 ⟨rfl, c⟩
        replace d := d.trans (c.mono d.size)
        clear c
        go_wp2_with fail
        refine (M2.out _).mono ?_
        rintro e w5 ⟨rfl, c⟩
        replace d := d.trans (c.mono d.size)
        clear c
        go_wp2_with fail
        refine (O1.out _).mono ?_
        rintro e w6 ⟨rfl, c⟩
        replace d := d.trans (c.mono d.size)
        clear c
        go_wp2_with fail
        refine (O2.out _).mono ?_
        rintro e w7 ⟨rfl, c⟩
        replace d := d.trans (c.mono d.size)
        clear c
        go_wp2_with fail
        refine (D1.out _).mono ?_
        rintro e w8 ⟨rfl, c⟩
        replace d := d.trans (c.mono d.size)
        clear c
        go_wp2_with fail
        refine (C1'.out _).mono ?_
        rintro e w9 ⟨rfl, rfl⟩
        go_wp2_with fail
        refine (C2.out _).mono ?_
        rintro e w10 ⟨rfl, rfl⟩
        go_wp2_with fail
        refine (C1'.out _).mono ?_
        rintro e w11 ⟨rfl, rfl⟩
        go_wp2_with fail
        refine (N1.out _).mono ?_
        rintro e w12 ⟨rfl, c⟩
        replace d := d.trans (c.mono d.size)
        clear c
        go_wp2_with fail
        refine (N2.out _).mono ?_
        rintro e w13 ⟨rfl, c⟩
        replace d := d.trans (c.mono d.size)
        clear c
        go_wp2_with fail
        refine (AW.out _).mono ?_
        rintro e w14 ⟨rfl, c⟩
        replace d := d.trans (c.mono d.size)
        clear c
        go_wp2
        go_ret
        exact ⟨rfl, d⟩
      · rw [g1] at o1
        rw [g2] at o2
        have O1 : Hid (∀ w, Calls Try.prog 11 #[.int .u64 (a : Int), .int .u64 (b : Int)] w fun e w' => e = .returned (.int .i64 (-1)) ∧ Below w.heap.size w w') := o1
        have O2 : Hid (∀ w, Calls Try.prog 11 #[.int .u64 (b : Int), .int .u64 (a : Int)] w fun e w' => e = .returned (.int .i64 1) ∧ Below w.heap.size w w') := o2
        clear o1 o2 g1 g2 hn ha hb hf dd hfl q1
        clear C1 kn kc
        go_enter Try.func6, Try.ntmps6
        go_wp2_with fail
        refine (C1'.out _).mono ?_
        rintro e w1 ⟨rfl, rfl⟩
        go_wp2_with fail
        refine (A1.out _).mono ?_
        rintro e w2 ⟨rfl, c⟩
        have d := c
        clear c
        go_wp2_with fail
        refine (A2.out _).mono ?_
        rintro e w3 ⟨rfl, c⟩
        replace d := d.trans (c.mono d.size)
        clear c
        go_wp2_with fail
        refine (M1.out _).mono ?_
        rintro e w4 ⟨rfl, c⟩
        replace d := d.trans (c.mono d.size)
        clear c
        go_wp2_with fail
        refine (M2.out _).mono ?_
        rintro e w5 ⟨rfl, c⟩
        replace d := d.trans (c.mono d.size)
        clear c
        go_wp2_with fail
        refine (O1.out _).mono ?_
        rintro e w6 ⟨rfl, c⟩
        replace d := d.trans (c.mono d.size)
        clear c
        go_wp2_with fail
        refine (O2.out _).mono ?_
        rintro e w7 ⟨rfl, c⟩
        replace d := d.trans (c.mono d.size)
        clear c
        go_wp2_with fail
        refine (D1.out _).mono ?_
        rintro e w8 ⟨rfl, c⟩
        replace d := d.trans (c.mono d.size)
        clear c
        go_wp2_with fail
        refine (C1'.out _).mono ?_
        rintro e w9 ⟨rfl, rfl⟩
        go_wp2_with fail
        refine (C2.out _).mono ?_
        rintro e w10 ⟨rfl, rfl⟩
        go_wp2_with fail
        refine (C1'.out _).mono ?_
        rintro e w11 ⟨rfl, rfl⟩
        go_wp2_with fail
        refine (N1.out _).mono ?_
        rintro e w12 ⟨rfl, c⟩
        replace d := d.trans (c.mono d.size)
        clear c
        go_wp2_with fail
        refine (N2.out _).mono ?_
        rintro e w13 ⟨rfl, c⟩
        replace d := d.trans (c.mono d.size)
        clear c
        go_wp2_with fail
        refine (AW.out _).mono ?_
        rintro e w14 ⟨rfl, c⟩
        replace d := d.trans (c.mono d.size)
        clear c
        go_wp2
        go_ret
        exact ⟨rfl, d⟩
      · rw [g1] at o1
        rw [g2] at o2
        have O1 : Hid (∀ w, Calls Try.prog 11 #[.int .u64 (a : Int), .int .u64 (b : Int)] w fun e w' => e = .returned (.int .i64 1) ∧ Below w.heap.size w w') := o1
        have O2 : Hid (∀ w, Calls Try.prog 11 #[.int .u64 (b : Int), .int .u64 (a : Int)] w fun e w' => e = .returned (.int .i64 (-1)) ∧ Below w.heap.size w w') := o2
        clear o1 o2 g1 g2 hn ha hb hf dd hfl q1
        clear C1 kn kc
        go_enter Try.func6, Try.ntmps6
        go_wp2_with fail
        refine (C1'.out _).mono ?_
        rintro e w1 ⟨rfl, rfl⟩
        go_wp2_with fail
        refine (A1.out _).mono ?_
        rintro e w2 ⟨rfl, c⟩
        have d := c
        clear c
        go_wp2_with fail
        refine (A2.out _).mono ?_
        rintro e w3 ⟨rfl, c⟩
        replace d := d.trans (c.mono d.size)
        clear c
        go_wp2_with fail
        refine (M1.out _).mono ?_
        rintro e w4 ⟨rfl, c⟩
        replace d := d.trans (c.mono d.size)
        clear c
        go_wp2_with fail
        refine (M2.out _).mono ?_
        rintro e w5 ⟨rfl, c⟩
        replace d := d.trans (c.mono d.size)
        clear c
        go_wp2_with fail
        refine (O1.out _).mono ?_
        rintro e w6 ⟨rfl, c⟩
        replace d := d.trans (c.mono d.size)
        clear c
        go_wp2_with fail
        refine (O2.out _).mono ?_
        rintro e w7 ⟨rfl, c⟩
        replace d := d.trans (c.mono d.size)
        clear c
        go_wp2_with fail
        refine (D1.out _).mono ?_
        rintro e w8 ⟨rfl, c⟩
        replace d := d.trans (c.mono d.size)
        clear c
        go_wp2_with fail
        refine (C1'.out _).mono ?_
        rintro e w9 ⟨rfl, rfl⟩
        go_wp2_with fail
        refine (C2.out _).mono ?_
        rintro e w10 ⟨rfl, rfl⟩
        go_wp2_with fail
        refine (C1'.out _).mono ?_
        rintro e w11 ⟨rfl, rfl⟩
        go_wp2_with fail
        refine (N1.out _).mono ?_
        rintro e w12 ⟨rfl, c⟩
        replace d := d.trans (c.mono d.size)
        clear c
        go_wp2_with fail
        refine (N2.out _).mono ?_
        rintro e w13 ⟨rfl, c⟩
        replace d := d.trans (c.mono d.size)
        clear c
        go_wp2_with fail
        refine (AW.out _).mono ?_
        rintro e w14 ⟨rfl, c⟩
        replace d := d.trans (c.mono d.size)
        clear c
        go_wp2
        go_ret
        exact ⟨rfl, d⟩
      · rw [g1] at o1
        rw [g2] at o2
        have O1 : Hid (∀ w, Calls Try.prog 11 #[.int .u64 (a : Int), .int .u64 (b : Int)] w fun e w' => e = .returned (.int .i64 0) ∧ Below w.heap.size w w') := o1
        have O2 : Hid (∀ w, Calls Try.prog 11 #[.int .u64 (b : Int), .int .u64 (a : Int)] w fun e w' => e = .returned (.int .i64 0) ∧ Below w.heap.size w w') := o2
        clear o1 o2 g1 g2 hn ha hb hf dd hfl q1
        clear C1 kn kc
        go_enter Try.func6, Try.ntmps6
        go_wp2_with fail
        refine (C1'.out _).mono ?_
        rintro e w1 ⟨rfl, rfl⟩
        go_wp2_with fail
        refine (A1.out _).mono ?_
        rintro e w2 ⟨rfl, c⟩
        have d := c
        clear c
        go_wp2_with fail
        refine (A2.out _).mono ?_
        rintro e w3 ⟨rfl, c⟩
        replace d := d.trans (c.mono d.size)
        clear c
        go_wp2_with fail
        refine (M1.out _).mono ?_
        rintro e w4 ⟨rfl, c⟩
        replace d := d.trans (c.mono d.size)
        clear c
        go_wp2_with fail
        refine (M2.out _).mono ?_
        rintro e w5 ⟨rfl, c⟩
        replace d := d.trans (c.mono d.size)
        clear c
        go_wp2_with fail
        refine (O1.out _).mono ?_
        rintro e w6 ⟨rfl, c⟩
        replace d := d.trans (c.mono d.size)
        clear c
        go_wp2_with fail
        refine (O2.out _).mono ?_
        rintro e w7 ⟨rfl, c⟩
        replace d := d.trans (c.mono d.size)
        clear c
        go_wp2_with fail
        refine (D1.out _).mono ?_
        rintro e w8 ⟨rfl, c⟩
        replace d := d.trans (c.mono d.size)
        clear c
        go_wp2_with fail
        refine (C1'.out _).mono ?_
        rintro e w9 ⟨rfl, rfl⟩
        go_wp2_with fail
        refine (C2.out _).mono ?_
        rintro e w10 ⟨rfl, rfl⟩
        go_wp2_with fail
        refine (C1'.out _).mono ?_
        rintro e w11 ⟨rfl, rfl⟩
        go_wp2_with fail
        refine (N1.out _).mono ?_
        rintro e w12 ⟨rfl, c⟩
        replace d := d.trans (c.mono d.size)
        clear c
        go_wp2_with fail
        refine (N2.out _).mono ?_
        rintro e w13 ⟨rfl, c⟩
        replace d := d.trans (c.mono d.size)
        clear c
        go_wp2_with fail
        refine (AW.out _).mono ?_
        rintro e w14 ⟨rfl, c⟩
        replace d := d.trans (c.mono d.size)
        clear c
        go_wp2
        go_ret
        exact ⟨rfl, d⟩

set_option maxRecDepth 100000 in
theorem lifted (os : Os) (started : os.Started) (H : Type) (enc : TypeId × Value → H) :
    ReturnsInHanded {} Try.checked os 6 .any (Rows.realOrdersSpec.pre6 enc Try.prog Try.f6 Rows.realOrdersRow.domain false) (Rows.realOrdersSpec.post enc Try.prog Try.f6 false true false false) := by
  refine returnsInHanded_of_change (C := Try.checked) own started (by kernel_rfl) Try.func6
    (ChangeSpec.witness6 (enc := enc) (C := Try.checked) false ⟨#[], #[.int .u64 0, .int .u64 0], []⟩ 8 (by kernel_rfl) (by kernel_rfl) (by kernel_rfl) (by kernel_rfl)) ?_
  intro W base args ds gs before hval0 hW hcnd _
  have hval : ∀ (j : Nat) t v, Try.f6.params[j]? = some t → args[j]? = some v → Value.okWide Try.prog W .any base t v := hval0
  have hW' := hW
  obtain ⟨p, q, hA0, hV, rfl, hfz, hnd⟩ := hW
  have hA : DataW.TrodAll enc Try.prog W 0 (fun _ => true) true Try.f6.params.toList args.toList ds p := hA0
  rw [Try.params6] at hA hval
  obtain ⟨v0, vs0, d0, ds0, p0, q0, hargs, rfl, rfl, h0, r0⟩ := trodAll_cons hA
  obtain ⟨v1, vs1, d1, ds1, p1, q1, rfl, rfl, rfl, h1, r1⟩ := trodAll_cons r0
  obtain ⟨rfl, rfl, rfl⟩ := trodAll_nil r1
  obtain rfl : args = #[v0, v1] := by cases args; simp_all
  obtain ⟨rfl, rfl⟩ := trodVars_none hV
  obtain ⟨a0, rfl, rfl, rfl, w0⟩ := open_int Try.underlying22 (hval 0 22 v0 rfl rfl) h0
  obtain ⟨a1, rfl, rfl, rfl, w1⟩ := open_int Try.underlying22 (hval 1 22 v1 rfl rfl) h1
  clear hA0 hval0
  simp only [List.append_nil] at hW'
  refine (walk a0 a1 w0 w1 W).mono fun e W' ⟨he, hg⟩ => ?_
  subst he
  exact ⟨_, rfl, _, _, _, [], _, [], hW', (trodAll_cons_mk (shut_bool Try.underlying4 _) trodAll_mk0), (trodAll_cons_mk (shut_int Try.underlying22 w0) (trodAll_cons_mk (shut_int Try.underlying22 w1) trodAll_mk0)), rfl, hg.frame _, fun h => by cases h⟩

theorem over : Rows.realOrdersRow.holds Try.pinned (OpenSpec.ofChange Rows.realOrdersSpec) :=
  OpenClaim.holds_of_wide 6 Try.f6 rfl rfl rfl rfl rfl rfl rfl ⟨rfl, rfl, rfl, rfl, rfl⟩ rfl rfl rfl rfl rfl (by kernel_rfl) Try.func6 (by kernel_rfl)
    (of_decide_eq_true (by kernel_rfl)) (by unfold Func.isWrapper; first | (rw [if_pos (by decide +kernel)]; kernel_rfl) | (rw [if_neg (by decide +kernel)]; exact ⟨rfl, rfl⟩))
    (fun os started H enc _ => lifted os started H enc)

end Go.Proofs.Ytlchjfdnkplmmaa.realOrders
namespace Go.Proofs.Ytlchjfdnkplmmaa
theorem realOrders_holds : Rows.RealOrdersSaid := realOrders.over
end Go.Proofs.Ytlchjfdnkplmmaa
