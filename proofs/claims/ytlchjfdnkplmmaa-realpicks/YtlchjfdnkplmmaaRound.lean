/- What is proved here: a number without its part behind the point, by the program. -/
import Derived.Test.YtlchjfdnkplmmaaMade
namespace Go.Proofs.Ytlchjfdnkplmmaa
open Go.RowKit

def wayOf (way : Int) : Option Ieee.Toward := if way = 0 then some .zero else if way = 1 then some .down else if way = 2 then some .up else if way = 3 then some .even else none
def wholeN (a : Nat) (way : Int) : Nat := match wayOf way with
  | some t => roundW t a
  | none => a
def roundN (a : Nat) (way : Int) : Nat := if isNone a then quietN else if rung a < 9218868437227405312 then wholeN a way else a
theorem trunc_any (a : Nat) (h : ¬ isNone a) (w : World) :
    Calls Try.prog 56 #[.float .f64 a] w fun e w' => e = .returned (.float .f64 (roundW .zero a)) ∧ w' = w := by
  have hx := x_trunc a h
  generalize roundW .zero a = o at *
  clear h
  go_enter Try.func56, Try.ntmps56
  go_wp2
  go_ret
  exact ⟨rfl, rfl⟩
theorem floor_any (a : Nat) (h : ¬ isNone a) (w : World) :
    Calls Try.prog 57 #[.float .f64 a] w fun e w' => e = .returned (.float .f64 (roundW .down a)) ∧ w' = w := by
  have hx := x_floor a h
  generalize roundW .down a = o at *
  clear h
  go_enter Try.func57, Try.ntmps57
  go_wp2
  go_ret
  exact ⟨rfl, rfl⟩
theorem ceil_any (a : Nat) (h : ¬ isNone a) (w : World) :
    Calls Try.prog 58 #[.float .f64 a] w fun e w' => e = .returned (.float .f64 (roundW .up a)) ∧ w' = w := by
  have hx := x_ceil a h
  generalize roundW .up a = o at *
  clear h
  go_enter Try.func58, Try.ntmps58
  go_wp2
  go_ret
  exact ⟨rfl, rfl⟩
theorem whole_any (a : Nat) (h : ¬ isNone a) (way : Int) (w : World) :
    Calls Try.prog 43 #[.float .f64 a, .int .i64 way] w fun e w' => e = .returned (.float .f64 (wholeN a way)) ∧ w' = w := by
  have T0 : Hid (∀ w, Calls Try.prog 56 #[.float .f64 a] w fun e w' => e = .returned (.float .f64 (roundW .zero a)) ∧ w' = w) := trunc_any a h
  have T1 : Hid (∀ w, Calls Try.prog 57 #[.float .f64 a] w fun e w' => e = .returned (.float .f64 (roundW .down a)) ∧ w' = w) := floor_any a h
  have T2 : Hid (∀ w, Calls Try.prog 58 #[.float .f64 a] w fun e w' => e = .returned (.float .f64 (roundW .up a)) ∧ w' = w) := ceil_any a h
  have T3 := x_even a h
  have hw : Hid (wholeN a way = if way = 0 then roundW .zero a else if way = 1 then roundW .down a else if way = 2 then roundW .up a else if way = 3 then roundW .even a else a) := by
    unfold Hid wholeN wayOf; (repeat' split) <;> simp_all
  generalize wholeN a way = o at *
  generalize roundW .zero a = o0 at *
  generalize roundW .down a = o1 at *
  generalize roundW .up a = o2 at *
  generalize roundW .even a = o3 at *
  clear h
  by_cases h0 : way = 0
  · subst h0
    obtain rfl : o = o0 := by rw [hw.out]; simp
    clear hw T3
    go_enter Try.func43, Try.ntmps43
    go_wp2_with fail
    refine (T0.out _).mono ?_
    rintro e w1 ⟨rfl, rfl⟩
    go_wp2
    go_ret
    exact ⟨rfl, rfl⟩
  by_cases h1 : way = 1
  · subst h1
    obtain rfl : o = o1 := by rw [hw.out]; simp
    clear hw T3
    go_enter Try.func43, Try.ntmps43
    go_wp2_with fail
    refine (T1.out _).mono ?_
    rintro e w1 ⟨rfl, rfl⟩
    go_wp2
    go_ret
    exact ⟨rfl, rfl⟩
  by_cases h2 : way = 2
  · subst h2
    obtain rfl : o = o2 := by rw [hw.out]; simp
    clear hw T3
    go_enter Try.func43, Try.ntmps43
    go_wp2_with fail
    refine (T2.out _).mono ?_
    rintro e w1 ⟨rfl, rfl⟩
    go_wp2
    go_ret
    exact ⟨rfl, rfl⟩
  by_cases h3 : way = 3
  · subst h3
    obtain rfl : o = o3 := by rw [hw.out]; simp
    clear hw
    go_enter Try.func43, Try.ntmps43
    go_wp2
    go_ret
    exact ⟨rfl, rfl⟩
  · obtain rfl : o = a := by rw [hw.out]; simp [h0, h1, h2, h3]
    clear hw T3
    go_enter Try.func43, Try.ntmps43
    go_wp2
    go_ret
    exact ⟨rfl, rfl⟩
theorem quieted_any (a : Nat) (hA : a < 18446744073709551616) (w : World) :
    Calls Try.prog 49 #[.int .u64 (a : Int)] w fun e w' => e = .returned (.int .u64 ((if isNone a then quietN else a : Nat) : Int)) ∧ w' = w := by
  have n1 := none_class a
  by_cases h : isNone a
  · rw [if_pos h]
    have hc := n1.1 h
    have C1 : Hid (∀ w, Calls Try.prog 9 #[.int .u64 (a : Int)] w fun e w' => e = .returned (.int .i64 4) ∧ w' = w) := by
      have := class_any a hA; rw [hc] at this; exact this
    clear h hc n1 hA
    go_enter Try.func49, Try.ntmps49
    go_wp2_with fail
    refine (C1.out _).mono ?_
    rintro e w1 ⟨rfl, rfl⟩
    go_wp2
    go_ret
    exact ⟨rfl, rfl⟩
  · rw [if_neg h]
    have hc : ((classN a : Int) == 4) = false := by
      have : classN a ≠ 4 := fun e => h (n1.2 e)
      simp; omega
    have C1 : Hid (∀ w, Calls Try.prog 9 #[.int .u64 (a : Int)] w fun e w' => e = .returned (.int .i64 (classN a : Nat)) ∧ w' = w) := class_any a hA
    clear h n1 hA
    generalize classN a = ca at *
    go_enter Try.func49, Try.ntmps49
    go_wp2_with fail
    refine (C1.out _).mono ?_
    rintro e w1 ⟨rfl, rfl⟩
    go_wp2
    go_ret
    exact ⟨rfl, rfl⟩
end Go.Proofs.Ytlchjfdnkplmmaa
