/- What is proved here: how two numbers compare, by the document. -/
import Derived.Test.YtlchjfdnkplmmaaOrder
namespace Go.Proofs.Ytlchjfdnkplmmaa
open Go.RowKit

theorem rrank_any (a : Nat) (hA : a < 18446744073709551616) (w : World) :
    Calls Try.prog 34 #[.int .u64 (a : Int)] w fun e w' => e = .returned (.int .i64 (rank a)) ∧ w' = w := by
  go_enter Try.func34, Try.ntmps34
  go_wp2
  all_goals go_ret
  all_goals refine ⟨ret_int ?_, rfl⟩
  all_goals
    simp only [beq_iff_eq, beq_eq_false_iff_ne] at *
    unfold rank sgn rung
    by_cases g : a / 9223372036854775808 % 2 = 1 <;> simp [g] <;> omega
set_option maxHeartbeats 400000 in
theorem rorder_any (a b : Nat) (hA : a < 18446744073709551616) (hB : b < 18446744073709551616) (w : World) :
    Calls Try.prog 12 #[.int .u64 (a : Int), .int .u64 (b : Int)] w fun e w' => e = .returned (.int .i64 (orderN a b)) ∧ w' = w := by
  have n1 := none_class a; have n2 := none_class b
  have C1 : Hid (∀ w, Calls Try.prog 10 #[.int .u64 (a : Int)] w fun e w' => e = .returned (.int .i64 (classN a : Nat)) ∧ w' = w) := rclass_any a hA
  have C2 : Hid (∀ w, Calls Try.prog 10 #[.int .u64 (b : Int)] w fun e w' => e = .returned (.int .i64 (classN b : Nat)) ∧ w' = w) := rclass_any b hB
  have R1 : Hid (∀ w, Calls Try.prog 34 #[.int .u64 (a : Int)] w fun e w' => e = .returned (.int .i64 (rank a)) ∧ w' = w) := rrank_any a hA
  have R2 : Hid (∀ w, Calls Try.prog 34 #[.int .u64 (b : Int)] w fun e w' => e = .returned (.int .i64 (rank b)) ∧ w' = w) := rrank_any b hB
  have ho : Hid (orderN a b = if classN a = 4 ∨ classN b = 4 then 2 else if rank a < rank b then -1 else if rank b < rank a then 1 else 0) := by
    unfold orderN orderF Hid; simp only [n1, n2]
  clear n1 n2
  generalize orderN a b = o at *
  have kca : Hid (classN a = 4 ∨ classN a ≠ 4) := Decidable.em _
  have kcb : Hid (classN b = 4 ∨ classN b ≠ 4) := Decidable.em _
  generalize classN a = ca at *
  generalize classN b = cb at *
  generalize rank a = ra at *
  generalize rank b = rb at *
  rcases kca.out with h1 | h1
  · subst h1
    have hr : o = 2 := by rw [ho.out, if_pos (Or.inl rfl)]
    subst hr
    clear ho kca kcb
    go_enter Try.func12, Try.ntmps12
    go_wp2_with fail
    refine (C1.out _).mono ?_
    rintro e w1 ⟨rfl, rfl⟩
    go_wp2
    go_ret
    exact ⟨rfl, rfl⟩
  · have g1 : ((ca : Int) == 4) = false := by simp; omega
    rcases kcb.out with h2 | h2
    · subst h2
      have hr : o = 2 := by rw [ho.out, if_pos (Or.inr rfl)]
      subst hr
      clear ho kca kcb h1
      go_enter Try.func12, Try.ntmps12
      go_wp2_with fail
      refine (C1.out _).mono ?_
      rintro e w1 ⟨rfl, rfl⟩
      go_wp2_with fail
      refine (C2.out _).mono ?_
      rintro e w1 ⟨rfl, rfl⟩
      go_wp2
      go_ret
      exact ⟨rfl, rfl⟩
    · have g2 : ((cb : Int) == 4) = false := by simp; omega
      have hr : Hid (o = if ra < rb then -1 else if rb < ra then 1 else 0) := by unfold Hid; rw [ho.out, if_neg (by omega)]
      clear ho kca kcb h1 h2
      go_enter Try.func12, Try.ntmps12
      go_wp2_with fail
      refine (C1.out _).mono ?_
      rintro e w1 ⟨rfl, rfl⟩
      go_wp2_with fail
      refine (C2.out _).mono ?_
      rintro e w1 ⟨rfl, rfl⟩
      go_wp2_with fail
      refine (R1.out _).mono ?_
      rintro e w1 ⟨rfl, rfl⟩
      go_wp2_with fail
      refine (R2.out _).mono ?_
      rintro e w1 ⟨rfl, rfl⟩
      go_wp2_with fail
      · go_ret
        exact ⟨ret_int (by rw [hr.out, if_pos (by assumption)]), rfl⟩
      · refine (R1.out _).mono ?_
        rintro e w1 ⟨rfl, rfl⟩
        go_wp2_with fail
        refine (R2.out _).mono ?_
        rintro e w1 ⟨rfl, rfl⟩
        go_wp2_with fail
        all_goals go_ret
        all_goals exact ⟨ret_int (by rw [hr.out]; (repeat' split) <;> omega), rfl⟩
end Go.Proofs.Ytlchjfdnkplmmaa
