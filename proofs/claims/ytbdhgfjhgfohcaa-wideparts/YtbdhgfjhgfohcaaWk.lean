/- What is proved here: chapter 10's examples; the walks of WideDoes and WideParts. -/
import Derived.Test.YtbdhgfjhgfohcaaWf
import Derived.Test.YtbdhgfjhgfohcaaWj
namespace Go.Proofs.Ytbdhgfjhgfohcaa
open Go.RowKit
set_option linter.unusedVariables false
set_option linter.unusedSimpArgs false
set_option maxRecDepth 100000
theorem ex_mult : doN ⟨#[109, 117, 108, 116]⟩ 4294967295 2 0 0 = (4294967295, 4294967294) := by decide +kernel
theorem ex_div : doN ⟨#[100, 105, 118]⟩ 4294967289 2 0 0 = (4294967295, 4294967293) := by decide +kernel
theorem ex_ll : layN true 0 287454020 (aheadN 1) = 573785088 := by decide +kernel
set_option maxHeartbeats 1000000 in
theorem awake12 (w : World) : Calls Try.prog 12 #[] w fun e w' => e = .returned (.bool true) ∧ Below w.heap.size w w' := by
  have K1 : Hid (∀ w, Calls Try.prog 8 #[.string ⟨#[109, 117, 108, 116]⟩, .int .u32 4294967295, .int .u32 2, .int .u32 0, .int .u32 0] w fun e w' => e = .returned (.tuple #[.int .u32 4294967295, .int .u32 4294967294]) ∧ Below w.heap.size w w') := fun w => by
    have h := do8 ⟨#[109, 117, 108, 116]⟩ 4294967295 2 0 0 (by decide) (by decide) (by decide) (by decide) w
    unfold DoIs at h
    rw [ex_mult] at h
    exact h
  have K2 : Hid (∀ w, Calls Try.prog 8 #[.string ⟨#[100, 105, 118]⟩, .int .u32 4294967289, .int .u32 2, .int .u32 0, .int .u32 0] w fun e w' => e = .returned (.tuple #[.int .u32 4294967295, .int .u32 4294967293]) ∧ Below w.heap.size w w') := fun w => by
    have h := do8 ⟨#[100, 105, 118]⟩ 4294967289 2 0 0 (by decide) (by decide) (by decide) (by decide) w
    unfold DoIs at h
    rw [ex_div] at h
    exact h
  have K3 : Hid (∀ w, Calls Try.prog 13 #[.int .u32 0, .int .u32 287454020, .int .i64 1] w fun e w' => e = .returned (.int .u32 573785088) ∧ Below w.heap.size w w') := fun w => by
    have h := loadLeft13 0 287454020 1 (by decide) (by decide) w
    rw [ex_ll] at h
    exact h
  go_enter Try.func12, Try.ntmps12
  go_wp2_with fail
  refine (K1.out _).mono ?_
  rintro e w1 ⟨rfl, h1⟩
  go_wp2_with fail
  refine (K2.out _).mono ?_
  rintro e w2 ⟨rfl, h2⟩
  go_wp2_with fail
  refine (K3.out _).mono ?_
  rintro e w3 ⟨rfl, h3⟩
  go_wp2
  go_ret
  exact ⟨rfl, below_tr h1 (below_tr h2 h3)⟩
set_option maxHeartbeats 1000000 in
theorem does_walk (n : ByteArray) (s t hi lo : Nat) (hs : s < 4294967296) (ht : t < 4294967296) (hh : hi < 4294967296) (hl : lo < 4294967296) (w : World) : Calls Try.prog 3 #[.string n, .int .u32 (s : Int), .int .u32 (t : Int), .int .u32 (hi : Int), .int .u32 (lo : Int)] w fun e w' => e = .returned (.bool true) ∧ Below w.heap.size w w' := by
  have K1 : Hid (∀ w, Calls Try.prog 8 #[.string n, .int .u32 (s : Int), .int .u32 (t : Int), .int .u32 (hi : Int), .int .u32 (lo : Int)] w fun e w' => e = .returned (.tuple #[.int .u32 ((doN n s t hi lo).1 : Int), .int .u32 ((doN n s t hi lo).2 : Int)]) ∧ Below w.heap.size w w') := do8 n s t hi lo hs ht hh hl
  have K2 : Hid (∀ w, Calls Try.prog 9 #[.string n, .int .u32 (s : Int), .int .u32 (t : Int), .int .u32 (hi : Int), .int .u32 (lo : Int)] w fun e w' => e = .returned (.tuple #[.int .u32 ((doN n s t hi lo).1 : Int), .int .u32 ((doN n s t hi lo).2 : Int)]) ∧ Below w.heap.size w w') := rdo9 n s t hi lo hs ht hh hl
  have K3 : Hid (∀ w, Calls Try.prog 10 #[.string n] w fun e w' => e = .returned (.bool (wIdx n).isSome) ∧ Below w.heap.size w w') := known10 n
  have K4 : Hid (∀ w, Calls Try.prog 11 #[.string n] w fun e w' => e = .returned (.bool (wIdx n).isSome) ∧ Below w.heap.size w w') := fun w => (rknown11 n w).mono (fun e w' h => ⟨h.1, by rw [h.2]; exact Below.refl _ _⟩)
  have K5 : Hid (∀ w, Calls Try.prog 12 #[] w fun e w' => e = .returned (.bool true) ∧ Below w.heap.size w w') := awake12
  generalize (doN n s t hi lo).1 = x at *
  generalize (doN n s t hi lo).2 = y at *
  generalize (wIdx n).isSome = b at *
  go_enter Try.func3, Try.ntmps3
  go_wp2_with fail
  refine (K1.out _).mono ?_
  rintro e w1 ⟨rfl, h1⟩
  go_wp2_with fail
  refine (K2.out _).mono ?_
  rintro e w2 ⟨rfl, h2⟩
  go_wp2_with fail
  refine (K3.out _).mono ?_
  rintro e w3 ⟨rfl, h3⟩
  go_wp2_with fail
  refine (K4.out _).mono ?_
  rintro e w4 ⟨rfl, h4⟩
  go_wp2_with fail
  refine (K5.out _).mono ?_
  rintro e w5 ⟨rfl, h5⟩
  go_wp2
  go_ret
  exact ⟨rfl, below_tr h1 (below_tr h2 (below_tr h3 (below_tr h4 (h5))))⟩
set_option maxHeartbeats 1000000 in
theorem parts_walk (old v : Nat) (a : Int) (ho : old < 4294967296) (hv : v < 4294967296) (w : World) : Calls Try.prog 4 #[.int .u32 (old : Int), .int .u32 (v : Int), .int .i64 a] w fun e w' => e = .returned (.bool true) ∧ Below w.heap.size w w' := by
  have K13 : Hid (∀ w, Calls Try.prog 13 #[.int .u32 (old : Int), .int .u32 (v : Int), .int .i64 a] w fun e w' => e = .returned (.int .u32 ((layN true old v (aheadN a) : Nat) : Int)) ∧ Below w.heap.size w w') := loadLeft13 old v a ho hv
  have K14 : Hid (∀ w, Calls Try.prog 14 #[.int .u32 (old : Int), .int .u32 (v : Int), .int .i64 a] w fun e w' => e = .returned (.int .u32 ((layN true old v (aheadN a) : Nat) : Int)) ∧ Below w.heap.size w w') := rloadLeft14 old v a ho hv
  have K15 : Hid (∀ w, Calls Try.prog 15 #[.int .u32 (old : Int), .int .u32 (v : Int), .int .i64 a] w fun e w' => e = .returned (.int .u32 ((layN false old v (behindN a) : Nat) : Int)) ∧ Below w.heap.size w w') := loadRight15 old v a ho hv
  have K16 : Hid (∀ w, Calls Try.prog 16 #[.int .u32 (old : Int), .int .u32 (v : Int), .int .i64 a] w fun e w' => e = .returned (.int .u32 ((layN false old v (behindN a) : Nat) : Int)) ∧ Below w.heap.size w w') := rloadRight16 old v a ho hv
  have K17 : Hid (∀ w, Calls Try.prog 17 #[.int .u32 (old : Int), .int .u32 (v : Int), .int .i64 a] w fun e w' => e = .returned (.int .u32 ((layN false old v (aheadN a) : Nat) : Int)) ∧ Below w.heap.size w w') := storeLeft17 old v a ho hv
  have K18 : Hid (∀ w, Calls Try.prog 18 #[.int .u32 (old : Int), .int .u32 (v : Int), .int .i64 a] w fun e w' => e = .returned (.int .u32 ((layN false old v (aheadN a) : Nat) : Int)) ∧ Below w.heap.size w w') := rstoreLeft18 old v a ho hv
  have K19 : Hid (∀ w, Calls Try.prog 19 #[.int .u32 (old : Int), .int .u32 (v : Int), .int .i64 a] w fun e w' => e = .returned (.int .u32 ((layN true old v (behindN a) : Nat) : Int)) ∧ Below w.heap.size w w') := storeRight19 old v a ho hv
  have K20 : Hid (∀ w, Calls Try.prog 20 #[.int .u32 (old : Int), .int .u32 (v : Int), .int .i64 a] w fun e w' => e = .returned (.int .u32 ((layN true old v (behindN a) : Nat) : Int)) ∧ Below w.heap.size w w') := rstoreRight20 old v a ho hv
  have KA : Hid (∀ w, Calls Try.prog 12 #[] w fun e w' => e = .returned (.bool true) ∧ Below w.heap.size w w') := awake12
  generalize layN true old v (aheadN a) = z0 at *
  generalize layN false old v (behindN a) = z1 at *
  generalize layN false old v (aheadN a) = z2 at *
  generalize layN true old v (behindN a) = z3 at *
  go_enter Try.func4, Try.ntmps4
  go_wp2_with fail
  refine (K13.out _).mono ?_
  rintro e w1 ⟨rfl, h1⟩
  go_wp2_with fail
  refine (K14.out _).mono ?_
  rintro e w2 ⟨rfl, h2⟩
  go_wp2_with fail
  refine (K15.out _).mono ?_
  rintro e w3 ⟨rfl, h3⟩
  go_wp2_with fail
  refine (K16.out _).mono ?_
  rintro e w4 ⟨rfl, h4⟩
  go_wp2_with fail
  refine (K17.out _).mono ?_
  rintro e w5 ⟨rfl, h5⟩
  go_wp2_with fail
  refine (K18.out _).mono ?_
  rintro e w6 ⟨rfl, h6⟩
  go_wp2_with fail
  refine (K19.out _).mono ?_
  rintro e w7 ⟨rfl, h7⟩
  go_wp2_with fail
  refine (K20.out _).mono ?_
  rintro e w8 ⟨rfl, h8⟩
  go_wp2_with fail
  refine (KA.out _).mono ?_
  rintro e w9 ⟨rfl, h9⟩
  go_wp2
  go_ret
  exact ⟨rfl, below_tr h1 (below_tr h2 (below_tr h3 (below_tr h4 (below_tr h5 (below_tr h6 (below_tr h7 (below_tr h8 (h9))))))))⟩
end Go.Proofs.Ytbdhgfjhgfohcaa
