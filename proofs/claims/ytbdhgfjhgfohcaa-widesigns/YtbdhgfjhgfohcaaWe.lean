/- What is proved here: the document's halves, products and quotients of wide. -/
import Derived.Test.YtbdhgfjhgfohcaaWd
namespace Go.Proofs.Ytbdhgfjhgfohcaa
open Go.RowKit
set_option linter.unusedVariables false
set_option linter.unusedSimpArgs false
set_option maxRecDepth 100000
def sizeN (v : Nat) : Nat := if v < 2147483648 then v else 4294967296 - v
theorem size_lt (v : Nat) (h : v < 4294967296) : sizeN v < 4294967296 := by unfold sizeN; split <;> omega
theorem size_pos (v : Nat) (h : v < 4294967296) (h0 : v ≠ 0) : 0 < sizeN v := by unfold sizeN; split <;> omega
theorem sg_pos (v : Nat) (h : v < 2147483648) : sg v = (sizeN v : Int) := by unfold sg sizeN; rw [if_pos h, if_pos h]
theorem sg_neg (v : Nat) (hv : v < 4294967296) (h : ¬ v < 2147483648) : sg v = -(sizeN v : Int) := by unfold sg sizeN; rw [if_neg h, if_neg h]; omega
theorem size53 (v : Nat) (hv : v < 4294967296) (w : World) : Calls Try.prog 53 #[.int .u32 (v : Int)] w fun e w' => e = .returned (.int .u32 ((sizeN v : Nat) : Int)) ∧ w' = w := by
  by_cases h : v < 2147483648
  · have e : sizeN v = v := if_pos h
    have h1 : (v : Int) / 2147483648 = 0 := by omega
    rw [e]
    go_enter Try.func53, Try.ntmps53
    go_wp2
    go_ret
    exact ⟨rfl, rfl⟩
  · have e : sizeN v = 4294967296 - v := if_neg h
    have h1 : (v : Int) / 2147483648 = 1 := by omega
    have h2 : Hid ((-(v : Int)) % 4294967296 = ((4294967296 - v : Nat) : Int)) := by show _ = _; omega
    rw [e]
    go_enter Try.func53, Try.ntmps53
    go_wp2
    go_ret
    exact ⟨ret_int h2.out, rfl⟩
theorem halves24 (z : Nat) (hz : z < 18446744073709551616) (w : World) : Calls Try.prog 24 #[.int .u64 (z : Int)] w fun e w' => e = .returned (.tuple #[.int .u32 ((z / 4294967296 : Nat) : Int), .int .u32 ((z % 4294967296 : Nat) : Int)]) ∧ w' = w := by
  go_enter Try.func24, Try.ntmps24
  go_wp2
  go_ret2
  exact ⟨ret_two (by omega) (by omega), rfl⟩
theorem rsigned25 (s t : Nat) (hs : s < 4294967296) (ht : t < 4294967296) (w : World) : Calls Try.prog 25 #[.int .u32 (s : Int), .int .u32 (t : Int)] w fun e w' => e = .returned (.int .u64 ((prN true s t : Nat) : Int)) ∧ w' = w := by
  have h1 := sg_wrap s hs
  have h2 := sg_wrap t ht
  have h3 : wrap64 (sg s) = sg s := by have := sg_lo s hs; unfold wrap64; omega
  have h4 : wrap64 (sg t) = sg t := by have := sg_lo t ht; unfold wrap64; omega
  have hk : Hid (IntKind.u64.wrap (wrap64 (sg s * sg t)) = ((prN true s t : Nat) : Int)) := outW_wrap _
  generalize prN true s t = z at *
  generalize sg s = a at *
  generalize sg t = b at *
  go_enter Try.func25, Try.ntmps25
  go_wp2
  go_ret
  exact ⟨ret_int hk.out, rfl⟩
theorem prU (s t : Nat) (hs : s < 4294967296) (ht : t < 4294967296) : ((prN false s t : Nat) : Int) = (s : Int) * (t : Int) := by
  show ((outW ((s : Int) * (t : Int)) : Nat) : Int) = _
  have h : s * t ≤ 4294967295 * 4294967295 := Nat.mul_le_mul (by omega) (by omega)
  have e : (s : Int) * (t : Int) = ((s * t : Nat) : Int) := by simp
  rw [outW_is, e]
  generalize s * t = z at h
  omega
theorem runsigned26 (s t : Nat) (hs : s < 4294967296) (ht : t < 4294967296) (w : World) : Calls Try.prog 26 #[.int .u32 (s : Int), .int .u32 (t : Int)] w fun e w' => e = .returned (.int .u64 ((prN false s t : Nat) : Int)) ∧ w' = w := by
  have hk : Hid (((prN false s t : Nat) : Int) = (s : Int) * (t : Int)) := prU s t hs ht
  have hw : IntKind.u64.wrap ((s : Int) * (t : Int)) = (s : Int) * (t : Int) := by
    rw [← prU s t hs ht, IntKind.wrap_u64]
    have := prN_lt false s t
    omega
  generalize prN false s t = z at *
  go_enter Try.func26, Try.ntmps26
  go_wp2
  go_ret
  exact ⟨ret_int hk.out.symm, rfl⟩
theorem ngO (n : Int) (A : Nat) (h : n = -(A : Int)) : ((outN n : Nat) : Int) = (-(A : Int)) % 4294967296 := by rw [outN_is, h]
theorem psO (n : Int) (A : Nat) (hA : A < 4294967296) (h : n = (A : Int)) : ((outN n : Nat) : Int) = (A : Int) := by rw [outN_is, h]; omega
set_option maxHeartbeats 1000000 in
theorem part27_00 (s t : Nat) (hs : s < 4294967296) (ht : t < 4294967296) (h0 : t ≠ 0) (ns : s < 2147483648) (nt : t < 2147483648) (w : World) : Calls Try.prog 27 #[.int .u32 (s : Int), .int .u32 (t : Int)] w fun e w' => e = .returned (.tuple #[.int .u32 ((outN ((sg s).tmod (sg t)) : Nat) : Int), .int .u32 ((outN ((sg s).tdiv (sg t)) : Nat) : Int)]) ∧ w' = w := by
  have K1 : Hid (∀ w, Calls Try.prog 53 #[.int .u32 (s : Int)] w fun e w' => e = .returned (.int .u32 ((sizeN s : Nat) : Int)) ∧ w' = w) := size53 s hs
  have K2 : Hid (∀ w, Calls Try.prog 53 #[.int .u32 (t : Int)] w fun e w' => e = .returned (.int .u32 ((sizeN t : Nat) : Int)) ∧ w' = w) := size53 t ht
  have ls := size_lt s hs
  have lt := size_lt t ht
  have pt := size_pos t ht h0
  have es := sg_pos s ns
  have et := sg_pos t nt
  rw [es, et]
  generalize sizeN s = A at *
  generalize sizeN t = B at *
  have lq : A / B ≤ A := Nat.div_le_self _ _
  have lr : A % B ≤ A := Nat.mod_le _ _
  have eq : ((A / B : Nat) : Int) = (A : Int) / (B : Int) := by simp
  have er : ((A % B : Nat) : Int) = (A : Int) % (B : Int) := by simp
  have tm : (A : Int).tmod (B : Int) = (A : Int) % (B : Int) := Int.tmod_eq_emod_of_nonneg (by omega)
  have dq : Hid (((outN ((A : Int).tdiv (B : Int)) : Nat) : Int) = ((A / B : Nat) : Int)) := psO _ _ (by omega) (by simp [tm, Int.neg_tdiv, Int.tdiv_neg, Int.neg_neg, Int.neg_tmod, Int.tmod_neg])
  have dr : Hid (((outN ((A : Int).tmod (B : Int)) : Nat) : Int) = ((A % B : Nat) : Int)) := psO _ _ (by omega) (by simp [tm, Int.neg_tdiv, Int.tdiv_neg, Int.neg_neg, Int.neg_tmod, Int.tmod_neg])
  generalize outN ((A : Int).tdiv (B : Int)) = q at *
  generalize outN ((A : Int).tmod (B : Int)) = r at *
  have f1 : (s : Int) / 2147483648 = 0 := by omega
  have f2 : (t : Int) / 2147483648 = 0 := by omega
  have f3 : ((B : Int) == 0) = false := by rw [beq_eq_false_iff_ne]; omega
  have f4 : (B : Int) ≠ 0 := by omega
  have eq' := eq.symm
  have er' := er.symm
  generalize A / B = Q at *
  generalize A % B = R at *
  clear eq er tm ns nt es et
  go_enter Try.func27, Try.ntmps27
  go_wp2_with fail
  refine (K1.out _).mono ?_
  rintro e w1 ⟨rfl, rfl⟩
  go_wp2_with fail
  refine (K2.out _).mono ?_
  rintro e w1 ⟨rfl, rfl⟩
  go_wp2_with fail
  refine (K1.out _).mono ?_
  rintro e w1 ⟨rfl, rfl⟩
  go_wp2_with fail
  refine (K2.out _).mono ?_
  rintro e w1 ⟨rfl, rfl⟩
  go_wp2
  go_ret2
  have dr := dr.out
  have dq := dq.out
  exact ⟨ret_two (by omega) (by omega), rfl⟩
set_option maxHeartbeats 1000000 in
theorem part27_01 (s t : Nat) (hs : s < 4294967296) (ht : t < 4294967296) (h0 : t ≠ 0) (ns : s < 2147483648) (nt : ¬ t < 2147483648) (w : World) : Calls Try.prog 27 #[.int .u32 (s : Int), .int .u32 (t : Int)] w fun e w' => e = .returned (.tuple #[.int .u32 ((outN ((sg s).tmod (sg t)) : Nat) : Int), .int .u32 ((outN ((sg s).tdiv (sg t)) : Nat) : Int)]) ∧ w' = w := by
  have K1 : Hid (∀ w, Calls Try.prog 53 #[.int .u32 (s : Int)] w fun e w' => e = .returned (.int .u32 ((sizeN s : Nat) : Int)) ∧ w' = w) := size53 s hs
  have K2 : Hid (∀ w, Calls Try.prog 53 #[.int .u32 (t : Int)] w fun e w' => e = .returned (.int .u32 ((sizeN t : Nat) : Int)) ∧ w' = w) := size53 t ht
  have ls := size_lt s hs
  have lt := size_lt t ht
  have pt := size_pos t ht h0
  have es := sg_pos s ns
  have et := sg_neg t ht nt
  rw [es, et]
  generalize sizeN s = A at *
  generalize sizeN t = B at *
  have lq : A / B ≤ A := Nat.div_le_self _ _
  have lr : A % B ≤ A := Nat.mod_le _ _
  have eq : ((A / B : Nat) : Int) = (A : Int) / (B : Int) := by simp
  have er : ((A % B : Nat) : Int) = (A : Int) % (B : Int) := by simp
  have tm : (A : Int).tmod (B : Int) = (A : Int) % (B : Int) := Int.tmod_eq_emod_of_nonneg (by omega)
  have dq : Hid (((outN ((A : Int).tdiv (-(B : Int))) : Nat) : Int) = (-((A / B : Nat) : Int)) % 4294967296) := ngO _ _ (by simp [tm, Int.neg_tdiv, Int.tdiv_neg, Int.neg_neg, Int.neg_tmod, Int.tmod_neg])
  have dr : Hid (((outN ((A : Int).tmod (-(B : Int))) : Nat) : Int) = ((A % B : Nat) : Int)) := psO _ _ (by omega) (by simp [tm, Int.neg_tdiv, Int.tdiv_neg, Int.neg_neg, Int.neg_tmod, Int.tmod_neg])
  generalize outN ((A : Int).tdiv (-(B : Int))) = q at *
  generalize outN ((A : Int).tmod (-(B : Int))) = r at *
  have f1 : (s : Int) / 2147483648 = 0 := by omega
  have f2 : (t : Int) / 2147483648 = 1 := by omega
  have f3 : ((B : Int) == 0) = false := by rw [beq_eq_false_iff_ne]; omega
  have f4 : (B : Int) ≠ 0 := by omega
  have eq' := eq.symm
  have er' := er.symm
  generalize A / B = Q at *
  generalize A % B = R at *
  clear eq er tm ns nt es et
  go_enter Try.func27, Try.ntmps27
  go_wp2_with fail
  refine (K1.out _).mono ?_
  rintro e w1 ⟨rfl, rfl⟩
  go_wp2_with fail
  refine (K2.out _).mono ?_
  rintro e w1 ⟨rfl, rfl⟩
  go_wp2_with fail
  refine (K1.out _).mono ?_
  rintro e w1 ⟨rfl, rfl⟩
  go_wp2_with fail
  refine (K2.out _).mono ?_
  rintro e w1 ⟨rfl, rfl⟩
  go_wp2
  go_ret2
  have dr := dr.out
  have dq := dq.out
  exact ⟨ret_two (by omega) (by omega), rfl⟩
set_option maxHeartbeats 1000000 in
theorem part27_10 (s t : Nat) (hs : s < 4294967296) (ht : t < 4294967296) (h0 : t ≠ 0) (ns : ¬ s < 2147483648) (nt : t < 2147483648) (w : World) : Calls Try.prog 27 #[.int .u32 (s : Int), .int .u32 (t : Int)] w fun e w' => e = .returned (.tuple #[.int .u32 ((outN ((sg s).tmod (sg t)) : Nat) : Int), .int .u32 ((outN ((sg s).tdiv (sg t)) : Nat) : Int)]) ∧ w' = w := by
  have K1 : Hid (∀ w, Calls Try.prog 53 #[.int .u32 (s : Int)] w fun e w' => e = .returned (.int .u32 ((sizeN s : Nat) : Int)) ∧ w' = w) := size53 s hs
  have K2 : Hid (∀ w, Calls Try.prog 53 #[.int .u32 (t : Int)] w fun e w' => e = .returned (.int .u32 ((sizeN t : Nat) : Int)) ∧ w' = w) := size53 t ht
  have ls := size_lt s hs
  have lt := size_lt t ht
  have pt := size_pos t ht h0
  have es := sg_neg s hs ns
  have et := sg_pos t nt
  rw [es, et]
  generalize sizeN s = A at *
  generalize sizeN t = B at *
  have lq : A / B ≤ A := Nat.div_le_self _ _
  have lr : A % B ≤ A := Nat.mod_le _ _
  have eq : ((A / B : Nat) : Int) = (A : Int) / (B : Int) := by simp
  have er : ((A % B : Nat) : Int) = (A : Int) % (B : Int) := by simp
  have tm : (A : Int).tmod (B : Int) = (A : Int) % (B : Int) := Int.tmod_eq_emod_of_nonneg (by omega)
  have dq : Hid (((outN ((-(A : Int)).tdiv (B : Int)) : Nat) : Int) = (-((A / B : Nat) : Int)) % 4294967296) := ngO _ _ (by simp [tm, Int.neg_tdiv, Int.tdiv_neg, Int.neg_neg, Int.neg_tmod, Int.tmod_neg])
  have dr : Hid (((outN ((-(A : Int)).tmod (B : Int)) : Nat) : Int) = (-((A % B : Nat) : Int)) % 4294967296) := ngO _ _ (by simp [tm, Int.neg_tdiv, Int.tdiv_neg, Int.neg_neg, Int.neg_tmod, Int.tmod_neg])
  generalize outN ((-(A : Int)).tdiv (B : Int)) = q at *
  generalize outN ((-(A : Int)).tmod (B : Int)) = r at *
  have f1 : (s : Int) / 2147483648 = 1 := by omega
  have f2 : (t : Int) / 2147483648 = 0 := by omega
  have f3 : ((B : Int) == 0) = false := by rw [beq_eq_false_iff_ne]; omega
  have f4 : (B : Int) ≠ 0 := by omega
  have eq' := eq.symm
  have er' := er.symm
  generalize A / B = Q at *
  generalize A % B = R at *
  clear eq er tm ns nt es et
  go_enter Try.func27, Try.ntmps27
  go_wp2_with fail
  refine (K1.out _).mono ?_
  rintro e w1 ⟨rfl, rfl⟩
  go_wp2_with fail
  refine (K2.out _).mono ?_
  rintro e w1 ⟨rfl, rfl⟩
  go_wp2_with fail
  refine (K1.out _).mono ?_
  rintro e w1 ⟨rfl, rfl⟩
  go_wp2_with fail
  refine (K2.out _).mono ?_
  rintro e w1 ⟨rfl, rfl⟩
  go_wp2
  go_ret2
  have dr := dr.out
  have dq := dq.out
  exact ⟨ret_two (by omega) (by omega), rfl⟩
set_option maxHeartbeats 1000000 in
theorem part27_11 (s t : Nat) (hs : s < 4294967296) (ht : t < 4294967296) (h0 : t ≠ 0) (ns : ¬ s < 2147483648) (nt : ¬ t < 2147483648) (w : World) : Calls Try.prog 27 #[.int .u32 (s : Int), .int .u32 (t : Int)] w fun e w' => e = .returned (.tuple #[.int .u32 ((outN ((sg s).tmod (sg t)) : Nat) : Int), .int .u32 ((outN ((sg s).tdiv (sg t)) : Nat) : Int)]) ∧ w' = w := by
  have K1 : Hid (∀ w, Calls Try.prog 53 #[.int .u32 (s : Int)] w fun e w' => e = .returned (.int .u32 ((sizeN s : Nat) : Int)) ∧ w' = w) := size53 s hs
  have K2 : Hid (∀ w, Calls Try.prog 53 #[.int .u32 (t : Int)] w fun e w' => e = .returned (.int .u32 ((sizeN t : Nat) : Int)) ∧ w' = w) := size53 t ht
  have ls := size_lt s hs
  have lt := size_lt t ht
  have pt := size_pos t ht h0
  have es := sg_neg s hs ns
  have et := sg_neg t ht nt
  rw [es, et]
  generalize sizeN s = A at *
  generalize sizeN t = B at *
  have lq : A / B ≤ A := Nat.div_le_self _ _
  have lr : A % B ≤ A := Nat.mod_le _ _
  have eq : ((A / B : Nat) : Int) = (A : Int) / (B : Int) := by simp
  have er : ((A % B : Nat) : Int) = (A : Int) % (B : Int) := by simp
  have tm : (A : Int).tmod (B : Int) = (A : Int) % (B : Int) := Int.tmod_eq_emod_of_nonneg (by omega)
  have dq : Hid (((outN ((-(A : Int)).tdiv (-(B : Int))) : Nat) : Int) = ((A / B : Nat) : Int)) := psO _ _ (by omega) (by simp [tm, Int.neg_tdiv, Int.tdiv_neg, Int.neg_neg, Int.neg_tmod, Int.tmod_neg])
  have dr : Hid (((outN ((-(A : Int)).tmod (-(B : Int))) : Nat) : Int) = (-((A % B : Nat) : Int)) % 4294967296) := ngO _ _ (by simp [tm, Int.neg_tdiv, Int.tdiv_neg, Int.neg_neg, Int.neg_tmod, Int.tmod_neg])
  generalize outN ((-(A : Int)).tdiv (-(B : Int))) = q at *
  generalize outN ((-(A : Int)).tmod (-(B : Int))) = r at *
  have f1 : (s : Int) / 2147483648 = 1 := by omega
  have f2 : (t : Int) / 2147483648 = 1 := by omega
  have f3 : ((B : Int) == 0) = false := by rw [beq_eq_false_iff_ne]; omega
  have f4 : (B : Int) ≠ 0 := by omega
  have eq' := eq.symm
  have er' := er.symm
  generalize A / B = Q at *
  generalize A % B = R at *
  clear eq er tm ns nt es et
  go_enter Try.func27, Try.ntmps27
  go_wp2_with fail
  refine (K1.out _).mono ?_
  rintro e w1 ⟨rfl, rfl⟩
  go_wp2_with fail
  refine (K2.out _).mono ?_
  rintro e w1 ⟨rfl, rfl⟩
  go_wp2_with fail
  refine (K1.out _).mono ?_
  rintro e w1 ⟨rfl, rfl⟩
  go_wp2_with fail
  refine (K2.out _).mono ?_
  rintro e w1 ⟨rfl, rfl⟩
  go_wp2
  go_ret2
  have dr := dr.out
  have dq := dq.out
  exact ⟨ret_two (by omega) (by omega), rfl⟩
theorem part27 (s t : Nat) (hs : s < 4294967296) (ht : t < 4294967296) (h0 : t ≠ 0) (w : World) : Calls Try.prog 27 #[.int .u32 (s : Int), .int .u32 (t : Int)] w fun e w' => e = .returned (.tuple #[.int .u32 ((outN ((sg s).tmod (sg t)) : Nat) : Int), .int .u32 ((outN ((sg s).tdiv (sg t)) : Nat) : Int)]) ∧ w' = w := by
  by_cases ns : s < 2147483648
  · by_cases nt : t < 2147483648
    · exact part27_00 s t hs ht h0 ns nt w
    · exact part27_01 s t hs ht h0 ns nt w
  · by_cases nt : t < 2147483648
    · exact part27_10 s t hs ht h0 ns nt w
    · exact part27_11 s t hs ht h0 ns nt w
end Go.Proofs.Ytbdhgfjhgfohcaa
