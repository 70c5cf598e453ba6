/- What is proved here: Int and Of, by the program; Of, by the document. -/
import Derived.Test.YtlchjfdnkplmmaaRound2
import Derived.Test.YtlchjfdnkplmmaaSums
import Derived.Test.YtlchjfdnkplmmaaFl5
namespace Go.Proofs.Ytlchjfdnkplmmaa
open Go.RowKit

def cutN (a : Nat) : Nat := if rung a < 9218868437227405312 then roundW .zero a else 4746794007248502784
def intV (a : Nat) : Int := if outOf (cutN a) then 2147483647 else toIntV (cutN a)
theorem cut_not_none (a : Nat) (hA : a < 18446744073709551616) : ¬ isNone (cutN a) := by
  unfold cutN isNone infR
  by_cases h : rung a < 9218868437227405312
  · rw [if_pos h]; have := (roundW_fin .zero a hA h).1; unfold infR at this; omega
  · rw [if_neg h]; decide +kernel
theorem out_beyond : outOf 4746794007248502784 := by decide +kernel
theorem int1_ok (p : Addr) (a : Nat) (hA : a < 18446744073709551616) (h : rung a < 9218868437227405312) (w : World) (hp : w.cell? p = some (.int .u64 (a : Int))) :
    Calls Try.prog 42 #[.pointer (some p)] w fun e w' => e = .returned (.float .f64 (roundW .zero a)) ∧ Below w.heap.size w w' := by
  have hn : ¬ isNone a := by unfold isNone infR; omega
  have K1 : Hid (∀ w, Calls Try.prog 33 #[.int .u64 (a : Int), .int .i64 2] w fun e w' => e = .returned (.float .f64 a) ∧ w' = w) := fun w => number_ok a hA 2 (class_plain a h) w
  have K2 : Hid (∀ w, Calls Try.prog 43 #[.float .f64 a, .int .i64 0] w fun e w' => e = .returned (.float .f64 (roundW .zero a)) ∧ w' = w) := whole_any a hn 0
  generalize roundW .zero a = o at *
  clear hA h hn
  go_enter Try.func42, Try.ntmps42
  go_wp2_with fail
  refine (K1.out _).mono ?_
  rintro e w1 ⟨rfl, rfl⟩
  go_wp2_with fail
  refine (K2.out _).mono ?_
  rintro e w1 ⟨rfl, rfl⟩
  go_wp2
  go_ret
  exact ⟨rfl, Below.refl _ _⟩
theorem int1_thrown (p : Addr) (a : Nat) (hA : a < 18446744073709551616) (h : ¬ rung a < 9218868437227405312) (w : World) (hp : w.cell? p = some (.int .u64 (a : Int))) :
    Calls Try.prog 42 #[.pointer (some p)] w fun e w' => (∃ x : Int, e = .panicked (thrown x)) ∧ Below w.heap.size w w' := by
  have K1 : Hid (∀ w, Calls Try.prog 33 #[.int .u64 (a : Int), .int .i64 2] w fun e w' => e = .panicked (thrown a) ∧ w' = w) := fun w => number_thrown a hA 2 (class_more a h) w
  clear hA h
  go_enter Try.func42, Try.ntmps42
  go_wp2_with fail
  refine (K1.out _).mono ?_
  rintro e w1 ⟨rfl, rfl⟩
  go_wp2_with fail
  exact ⟨rfl, ⟨_, rfl⟩, Below.refl _ _⟩
theorem cut_any (a : Nat) (hA : a < 18446744073709551616) (w : World) :
    Calls Try.prog 41 #[.func (.func 42) #[] #[.pointer (some ⟨w.heap.size, 0, none⟩)], .float .f64 4746794007248502784] (w.alloc (.cells #[.int .u64 (a : Int)] 22)) fun e w' => e = .returned (.float .f64 (cutN a)) ∧ Below w.heap.size w w' := by
  have hB0 : Below w.heap.size w (w.alloc (.cells #[.int .u64 (a : Int)] 22)) := (Below.refl _ w).alloc (Nat.le_refl _) _
  generalize hW : w.alloc (.cells #[.int .u64 (a : Int)] 22) = W at *
  have s0 : W.heap.size = w.heap.size + 1 := by rw [← hW]; simp
  have f0 : W.cell? ⟨w.heap.size, 0, none⟩ = some (.int .u64 (a : Int)) := by rw [← hW]; simp [go_sem]
  have en := enter_of Try.func42 (by kernel_rfl) (by kernel_rfl)
  unfold cutN
  by_cases h : rung a < 9218868437227405312
  · rw [if_pos h]
    refine (caught_f64 42 _ _ _ W (en _) ?_).mono fun e w' h => ⟨h.1, hB0.trans (h.2.mono (by omega))⟩
    intro w1 hb
    exact int1_ok _ a hA h w1 (by rw [hb.cell (by simp only; omega), f0])
  · rw [if_neg h]
    refine (caught_f64_thrown 42 _ _ W (en _) ?_).mono fun e w' h => ⟨h.1, hB0.trans (h.2.mono (by omega))⟩
    intro w1 hb
    exact int1_thrown _ a hA h w1 (by rw [hb.cell (by simp only; omega), f0])
theorem int_any (a : Nat) (hA : a < 18446744073709551616) (w : World) :
    Calls Try.prog 20 #[.int .u64 (a : Int)] w fun e w' => e = .returned (.tuple #[.int .i32 (intV a), .bool (decide (¬ outOf (cutN a)))]) ∧ Below w.heap.size w w' := by
  have hmf : ∀ (fn : Fn) (first cap : Array Value) (w : World), (Instr.makeFunc fn first cap).run Try.prog w = .ok (.func fn first cap) w := fun _ _ _ _ => rfl
  have K : Hid (Calls Try.prog 41 #[.func (.func 42) #[] #[.pointer (some ⟨w.heap.size, 0, none⟩)], .float .f64 4746794007248502784] (w.alloc (.cells #[.int .u64 (a : Int)] 22)) fun e w' => e = .returned (.float .f64 (cutN a)) ∧ Below w.heap.size w w') := cut_any a hA w
  have hn := cut_not_none a hA
  have g1 := ord_lt (cutN a) 13970166044103278592 hn (by decide +kernel)
  have g2 := ord_gt (cutN a) 4746794007244308480 hn (by decide +kernel)
  rw [rank_const_m] at g1
  rw [rank_const_31m] at g2
  by_cases h : outOf (cutN a)
  · have e1 : intV a = 2147483647 := by unfold intV; rw [if_pos h]
    have e2 : decide (¬ outOf (cutN a)) = false := by simp [h]
    rw [e1, e2]
    unfold outOf at h
    by_cases h1 : rank (cutN a) < -4746794007248502784
    · rw [decide_eq_true h1] at g1
      clear h h1 g2 hn hA e1 e2
      generalize cutN a = x at *
      go_enter Try.func20, Try.ntmps20
      go_wp2_with fail
      refine K.out.mono ?_
      rintro e w1 ⟨rfl, hb⟩
      go_wp2
      go_ret2
      exact ⟨rfl, hb⟩
    · rw [decide_eq_false h1] at g1
      rw [decide_eq_true (h.resolve_left h1)] at g2
      clear h h1 hn hA e1 e2
      generalize cutN a = x at *
      go_enter Try.func20, Try.ntmps20
      go_wp2_with fail
      refine K.out.mono ?_
      rintro e w1 ⟨rfl, hb⟩
      go_wp2
      go_ret2
      exact ⟨rfl, hb⟩
  · have e1 : intV a = toIntV (cutN a) := by unfold intV; rw [if_neg h]
    have e2 : decide (¬ outOf (cutN a)) = true := by simp [h]
    rw [e1, e2]
    have hf : rung a < 9218868437227405312 := Decidable.by_contra fun hf => h (by unfold cutN; rw [if_neg hf]; exact out_beyond)
    have ec : cutN a = roundW .zero a := by unfold cutN; rw [if_pos hf]
    have ht : floatToIntVal .f64 (cutN a) .i32 = some (toIntV (cutN a)) := by
      rw [ec] at h ⊢; exact toInt_in a hA hf h
    have hcv := fun w => run_convert_float_int (P := Try.prog) w 37 21 .f64 .i32 _ _ (by kernel_rfl) Try.underlying21 ht
    have h1 : ¬ rank (cutN a) < -4746794007248502784 := fun x => h (Or.inl x)
    have h2 : ¬ 4746794007244308480 < rank (cutN a) := fun x => h (Or.inr x)
    rw [decide_eq_false h1] at g1
    rw [decide_eq_false h2] at g2
    clear h h1 h2 hn hA e1 e2 hf ec ht
    generalize toIntV (cutN a) = n at *
    generalize cutN a = x at *
    go_enter Try.func20, Try.ntmps20
    go_wp2_with fail
    refine K.out.mono ?_
    rintro e w1 ⟨rfl, hb⟩
    go_wp2
    go_ret2
    exact ⟨rfl, hb⟩
theorem of_any (n : Int) (w : World) :
    Calls Try.prog 28 #[.int .i32 n] w fun e w' => e = .returned (.int .u64 ((ofN n : Nat) : Int)) ∧ w' = w := by
  have hx := x_bits (ofN n)
  have hcv : ∀ w, (convert 21 37 (.int .i32 n)).run Try.prog w = .ok (.float .f64 (ofN n)) w := fun w => rfl
  generalize ofN n = o at *
  go_enter Try.func28, Try.ntmps28
  go_wp2
  go_ret
  exact ⟨rfl, rfl⟩
theorem rof_any (n : Int) (h1 : -2147483648 ≤ n) (h2 : n ≤ 2147483647) (w : World) :
    Calls Try.prog 29 #[.int .i32 n] w fun e w' => e = .returned (.int .u64 ((ofN n : Nat) : Int)) ∧ w' = w := by
  have hf := (ofN_fin n h1 h2).1
  have B : Hid (∀ w, Calls Try.prog 37 #[.float .f64 (ofN n)] w fun e w' => e = .returned (.int .u64 ((ofN n : Nat) : Int)) ∧ w' = w) := bits_ok (ofN n) (by unfold isNone; omega)
  have hcv : ∀ w, (convert 21 37 (.int .i32 n)).run Try.prog w = .ok (.float .f64 (ofN n)) w := fun w => rfl
  clear hf
  generalize ofN n = o at *
  go_enter Try.func29, Try.ntmps29
  go_wp2_with fail
  refine (B.out _).mono ?_
  rintro e w1 ⟨rfl, rfl⟩
  go_wp2
  go_ret
  exact ⟨rfl, rfl⟩
end Go.Proofs.Ytlchjfdnkplmmaa
