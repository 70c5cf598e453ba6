/- What is proved here: the document's Do of wide. -/
import Derived.Test.YtbdhgfjhgfohcaaWe
namespace Go.Proofs.Ytbdhgfjhgfohcaa
open Go.RowKit
set_option linter.unusedVariables false
set_option linter.unusedSimpArgs false
set_option maxRecDepth 100000
theorem hl_div (s l : Nat) (hl : l < 4294967296) : (s * 4294967296 + l) / 4294967296 = s ∧ (s * 4294967296 + l) % 4294967296 = l := by omega
theorem dv_zero (sn : Bool) (s : Nat) : dvN sn s 0 = s * 4294967296 + 4294967295 := if_pos rfl
theorem dv_ne (sn : Bool) (s t : Nat) (h : ¬ t = 0) : dvN sn s t = outN ((rd sn s).tmod (rd sn t)) * 4294967296 + outN ((rd sn s).tdiv (rd sn t)) := if_neg h
theorem hl_mod (h l : Nat) (hl : l < 4294967296) : (h * 4294967296 + l) % 4294967296 = l := by omega
theorem wk_0 (s t b : Nat) : workN 0 s t b = prN true s t := rfl
theorem wk_1 (s t b : Nat) : workN 1 s t b = prN false s t := rfl
theorem wk_2 (s t b : Nat) : workN 2 s t b = outW ((b : Int) + (prN true s t : Int)) := rfl
theorem wk_3 (s t b : Nat) : workN 3 s t b = outW ((b : Int) + (prN false s t : Int)) := rfl
theorem wk_4 (s t b : Nat) : workN 4 s t b = outW ((b : Int) - (prN true s t : Int)) := rfl
theorem wk_5 (s t b : Nat) : workN 5 s t b = outW ((b : Int) - (prN false s t : Int)) := rfl
theorem wk_6 (s t b : Nat) : workN 6 s t b = dvN true s t := rfl
theorem wk_7 (s t b : Nat) : workN 7 s t b = dvN false s t := rfl
theorem wk_8 (s t b : Nat) : workN 8 s t b = s * 4294967296 + b % 4294967296 := rfl
theorem wk_9 (s t b : Nat) : workN 9 s t b = b / 4294967296 * 4294967296 + s := rfl
set_option maxHeartbeats 1000000 in
theorem rdo9_0 (s t hi lo : Nat) (hs : s < 4294967296) (ht : t < 4294967296) (hh : hi < 4294967296) (hl : lo < 4294967296) (w : World) : Calls Try.prog 9 #[.string ⟨#[109, 117, 108, 116]⟩, .int .u32 (s : Int), .int .u32 (t : Int), .int .u32 (hi : Int), .int .u32 (lo : Int)] w fun e w' => e = .returned (.tuple #[.int .u32 ((workN 0 s t (hi * 4294967296 + lo) / 4294967296 : Nat) : Int), .int .u32 ((workN 0 s t (hi * 4294967296 + lo) % 4294967296 : Nat) : Int)]) ∧ Below w.heap.size w w' := by
  have hj : bits .or .u64 ((hi : Int) * 4294967296) (lo : Int) = ((hi * 4294967296 + lo : Nat) : Int) := join_key hi lo hh hl
  have hb0 : hi * 4294967296 + lo < 18446744073709551616 := by omega
  have hz := work_lt 0 s t (hi * 4294967296 + lo) hs ht hb0
  generalize hi * 4294967296 + lo = b at *
  rw [wk_0] at hz ⊢
  have K1 : Hid (∀ w, Calls Try.prog 25 #[.int .u32 (s : Int), .int .u32 (t : Int)] w fun e w' => e = .returned (.int .u64 ((prN true s t : Nat) : Int)) ∧ w' = w) := rsigned25 s t hs ht
  generalize prN true s t = p at *
  obtain ⟨z, rfl⟩ : ∃ z, z = p := ⟨_, rfl⟩
  have K2 : Hid (∀ w, Calls Try.prog 24 #[.int .u64 (z : Int)] w fun e w' => e = .returned (.tuple #[.int .u32 ((z / 4294967296 : Nat) : Int), .int .u32 ((z % 4294967296 : Nat) : Int)]) ∧ w' = w) := halves24 z hz
  generalize z / 4294967296 = x at *
  generalize z % 4294967296 = y at *
  clear hs ht hb0 hz
  go_enter Try.func9, Try.ntmps9
  go_wp2_with fail
  refine (K1.out _).mono ?_
  rintro e w1 ⟨rfl, rfl⟩
  go_wp2_with fail
  refine (K2.out _).mono ?_
  rintro e w1 ⟨rfl, rfl⟩
  go_wp2
  go_ret2
  exact ⟨rfl, Below.refl _ _⟩
set_option maxHeartbeats 1000000 in
theorem rdo9_1 (s t hi lo : Nat) (hs : s < 4294967296) (ht : t < 4294967296) (hh : hi < 4294967296) (hl : lo < 4294967296) (w : World) : Calls Try.prog 9 #[.string ⟨#[109, 117, 108, 116, 117]⟩, .int .u32 (s : Int), .int .u32 (t : Int), .int .u32 (hi : Int), .int .u32 (lo : Int)] w fun e w' => e = .returned (.tuple #[.int .u32 ((workN 1 s t (hi * 4294967296 + lo) / 4294967296 : Nat) : Int), .int .u32 ((workN 1 s t (hi * 4294967296 + lo) % 4294967296 : Nat) : Int)]) ∧ Below w.heap.size w w' := by
  have hj : bits .or .u64 ((hi : Int) * 4294967296) (lo : Int) = ((hi * 4294967296 + lo : Nat) : Int) := join_key hi lo hh hl
  have hb0 : hi * 4294967296 + lo < 18446744073709551616 := by omega
  have hz := work_lt 1 s t (hi * 4294967296 + lo) hs ht hb0
  generalize hi * 4294967296 + lo = b at *
  rw [wk_1] at hz ⊢
  have K1 : Hid (∀ w, Calls Try.prog 26 #[.int .u32 (s : Int), .int .u32 (t : Int)] w fun e w' => e = .returned (.int .u64 ((prN false s t : Nat) : Int)) ∧ w' = w) := runsigned26 s t hs ht
  generalize prN false s t = p at *
  obtain ⟨z, rfl⟩ : ∃ z, z = p := ⟨_, rfl⟩
  have K2 : Hid (∀ w, Calls Try.prog 24 #[.int .u64 (z : Int)] w fun e w' => e = .returned (.tuple #[.int .u32 ((z / 4294967296 : Nat) : Int), .int .u32 ((z % 4294967296 : Nat) : Int)]) ∧ w' = w) := halves24 z hz
  generalize z / 4294967296 = x at *
  generalize z % 4294967296 = y at *
  clear hs ht hb0 hz
  go_enter Try.func9, Try.ntmps9
  go_wp2_with fail
  refine (K1.out _).mono ?_
  rintro e w1 ⟨rfl, rfl⟩
  go_wp2_with fail
  refine (K2.out _).mono ?_
  rintro e w1 ⟨rfl, rfl⟩
  go_wp2
  go_ret2
  exact ⟨rfl, Below.refl _ _⟩
set_option maxHeartbeats 1000000 in
theorem rdo9_2 (s t hi lo : Nat) (hs : s < 4294967296) (ht : t < 4294967296) (hh : hi < 4294967296) (hl : lo < 4294967296) (w : World) : Calls Try.prog 9 #[.string ⟨#[109, 97, 100, 100]⟩, .int .u32 (s : Int), .int .u32 (t : Int), .int .u32 (hi : Int), .int .u32 (lo : Int)] w fun e w' => e = .returned (.tuple #[.int .u32 ((workN 2 s t (hi * 4294967296 + lo) / 4294967296 : Nat) : Int), .int .u32 ((workN 2 s t (hi * 4294967296 + lo) % 4294967296 : Nat) : Int)]) ∧ Below w.heap.size w w' := by
  have hj : bits .or .u64 ((hi : Int) * 4294967296) (lo : Int) = ((hi * 4294967296 + lo : Nat) : Int) := join_key hi lo hh hl
  have hb0 : hi * 4294967296 + lo < 18446744073709551616 := by omega
  have hz := work_lt 2 s t (hi * 4294967296 + lo) hs ht hb0
  generalize hi * 4294967296 + lo = b at *
  rw [wk_2] at hz ⊢
  have K1 : Hid (∀ w, Calls Try.prog 25 #[.int .u32 (s : Int), .int .u32 (t : Int)] w fun e w' => e = .returned (.int .u64 ((prN true s t : Nat) : Int)) ∧ w' = w) := rsigned25 s t hs ht
  generalize prN true s t = p at *
  have hk : IntKind.u64.wrap ((b : Int) + (p : Int)) = ((outW ((b : Int) + (p : Int)) : Nat) : Int) := by rw [outW_is, IntKind.wrap_u64]
  generalize outW ((b : Int) + (p : Int)) = z at *
  have K2 : Hid (∀ w, Calls Try.prog 24 #[.int .u64 (z : Int)] w fun e w' => e = .returned (.tuple #[.int .u32 ((z / 4294967296 : Nat) : Int), .int .u32 ((z % 4294967296 : Nat) : Int)]) ∧ w' = w) := halves24 z hz
  generalize z / 4294967296 = x at *
  generalize z % 4294967296 = y at *
  clear hs ht hb0 hz
  go_enter Try.func9, Try.ntmps9
  go_wp2_with fail
  refine (K1.out _).mono ?_
  rintro e w1 ⟨rfl, rfl⟩
  go_wp2_with fail
  refine (K2.out _).mono ?_
  rintro e w1 ⟨rfl, rfl⟩
  go_wp2
  go_ret2
  exact ⟨rfl, Below.refl _ _⟩
set_option maxHeartbeats 1000000 in
theorem rdo9_3 (s t hi lo : Nat) (hs : s < 4294967296) (ht : t < 4294967296) (hh : hi < 4294967296) (hl : lo < 4294967296) (w : World) : Calls Try.prog 9 #[.string ⟨#[109, 97, 100, 100, 117]⟩, .int .u32 (s : Int), .int .u32 (t : Int), .int .u32 (hi : Int), .int .u32 (lo : Int)] w fun e w' => e = .returned (.tuple #[.int .u32 ((workN 3 s t (hi * 4294967296 + lo) / 4294967296 : Nat) : Int), .int .u32 ((workN 3 s t (hi * 4294967296 + lo) % 4294967296 : Nat) : Int)]) ∧ Below w.heap.size w w' := by
  have hj : bits .or .u64 ((hi : Int) * 4294967296) (lo : Int) = ((hi * 4294967296 + lo : Nat) : Int) := join_key hi lo hh hl
  have hb0 : hi * 4294967296 + lo < 18446744073709551616 := by omega
  have hz := work_lt 3 s t (hi * 4294967296 + lo) hs ht hb0
  generalize hi * 4294967296 + lo = b at *
  rw [wk_3] at hz ⊢
  have K1 : Hid (∀ w, Calls Try.prog 26 #[.int .u32 (s : Int), .int .u32 (t : Int)] w fun e w' => e = .returned (.int .u64 ((prN false s t : Nat) : Int)) ∧ w' = w) := runsigned26 s t hs ht
  generalize prN false s t = p at *
  have hk : IntKind.u64.wrap ((b : Int) + (p : Int)) = ((outW ((b : Int) + (p : Int)) : Nat) : Int) := by rw [outW_is, IntKind.wrap_u64]
  generalize outW ((b : Int) + (p : Int)) = z at *
  have K2 : Hid (∀ w, Calls Try.prog 24 #[.int .u64 (z : Int)] w fun e w' => e = .returned (.tuple #[.int .u32 ((z / 4294967296 : Nat) : Int), .int .u32 ((z % 4294967296 : Nat) : Int)]) ∧ w' = w) := halves24 z hz
  generalize z / 4294967296 = x at *
  generalize z % 4294967296 = y at *
  clear hs ht hb0 hz
  go_enter Try.func9, Try.ntmps9
  go_wp2_with fail
  refine (K1.out _).mono ?_
  rintro e w1 ⟨rfl, rfl⟩
  go_wp2_with fail
  refine (K2.out _).mono ?_
  rintro e w1 ⟨rfl, rfl⟩
  go_wp2
  go_ret2
  exact ⟨rfl, Below.refl _ _⟩
set_option maxHeartbeats 1000000 in
theorem rdo9_4 (s t hi lo : Nat) (hs : s < 4294967296) (ht : t < 4294967296) (hh : hi < 4294967296) (hl : lo < 4294967296) (w : World) : Calls Try.prog 9 #[.string ⟨#[109, 115, 117, 98]⟩, .int .u32 (s : Int), .int .u32 (t : Int), .int .u32 (hi : Int), .int .u32 (lo : Int)] w fun e w' => e = .returned (.tuple #[.int .u32 ((workN 4 s t (hi * 4294967296 + lo) / 4294967296 : Nat) : Int), .int .u32 ((workN 4 s t (hi * 4294967296 + lo) % 4294967296 : Nat) : Int)]) ∧ Below w.heap.size w w' := by
  have hj : bits .or .u64 ((hi : Int) * 4294967296) (lo : Int) = ((hi * 4294967296 + lo : Nat) : Int) := join_key hi lo hh hl
  have hb0 : hi * 4294967296 + lo < 18446744073709551616 := by omega
  have hz := work_lt 4 s t (hi * 4294967296 + lo) hs ht hb0
  generalize hi * 4294967296 + lo = b at *
  rw [wk_4] at hz ⊢
  have K1 : Hid (∀ w, Calls Try.prog 25 #[.int .u32 (s : Int), .int .u32 (t : Int)] w fun e w' => e = .returned (.int .u64 ((prN true s t : Nat) : Int)) ∧ w' = w) := rsigned25 s t hs ht
  generalize prN true s t = p at *
  have hk : IntKind.u64.wrap ((b : Int) - (p : Int)) = ((outW ((b : Int) - (p : Int)) : Nat) : Int) := by rw [outW_is, IntKind.wrap_u64]
  generalize outW ((b : Int) - (p : Int)) = z at *
  have K2 : Hid (∀ w, Calls Try.prog 24 #[.int .u64 (z : Int)] w fun e w' => e = .returned (.tuple #[.int .u32 ((z / 4294967296 : Nat) : Int), .int .u32 ((z % 4294967296 : Nat) : Int)]) ∧ w' = w) := halves24 z hz
  generalize z / 4294967296 = x at *
  generalize z % 4294967296 = y at *
  clear hs ht hb0 hz
  go_enter Try.func9, Try.ntmps9
  go_wp2_with fail
  refine (K1.out _).mono ?_
  rintro e w1 ⟨rfl, rfl⟩
  go_wp2_with fail
  refine (K2.out _).mono ?_
  rintro e w1 ⟨rfl, rfl⟩
  go_wp2
  go_ret2
  exact ⟨rfl, Below.refl _ _⟩
set_option maxHeartbeats 1000000 in
theorem rdo9_5 (s t hi lo : Nat) (hs : s < 4294967296) (ht : t < 4294967296) (hh : hi < 4294967296) (hl : lo < 4294967296) (w : World) : Calls Try.prog 9 #[.string ⟨#[109, 115, 117, 98, 117]⟩, .int .u32 (s : Int), .int .u32 (t : Int), .int .u32 (hi : Int), .int .u32 (lo : Int)] w fun e w' => e = .returned (.tuple #[.int .u32 ((workN 5 s t (hi * 4294967296 + lo) / 4294967296 : Nat) : Int), .int .u32 ((workN 5 s t (hi * 4294967296 + lo) % 4294967296 : Nat) : Int)]) ∧ Below w.heap.size w w' := by
  have hj : bits .or .u64 ((hi : Int) * 4294967296) (lo : Int) = ((hi * 4294967296 + lo : Nat) : Int) := join_key hi lo hh hl
  have hb0 : hi * 4294967296 + lo < 18446744073709551616 := by omega
  have hz := work_lt 5 s t (hi * 4294967296 + lo) hs ht hb0
  generalize hi * 4294967296 + lo = b at *
  rw [wk_5] at hz ⊢
  have K1 : Hid (∀ w, Calls Try.prog 26 #[.int .u32 (s : Int), .int .u32 (t : Int)] w fun e w' => e = .returned (.int .u64 ((prN false s t : Nat) : Int)) ∧ w' = w) := runsigned26 s t hs ht
  generalize prN false s t = p at *
  have hk : IntKind.u64.wrap ((b : Int) - (p : Int)) = ((outW ((b : Int) - (p : Int)) : Nat) : Int) := by rw [outW_is, IntKind.wrap_u64]
  generalize outW ((b : Int) - (p : Int)) = z at *
  have K2 : Hid (∀ w, Calls Try.prog 24 #[.int .u64 (z : Int)] w fun e w' => e = .returned (.tuple #[.int .u32 ((z / 4294967296 : Nat) : Int), .int .u32 ((z % 4294967296 : Nat) : Int)]) ∧ w' = w) := halves24 z hz
  generalize z / 4294967296 = x at *
  generalize z % 4294967296 = y at *
  clear hs ht hb0 hz
  go_enter Try.func9, Try.ntmps9
  go_wp2_with fail
  refine (K1.out _).mono ?_
  rintro e w1 ⟨rfl, rfl⟩
  go_wp2_with fail
  refine (K2.out _).mono ?_
  rintro e w1 ⟨rfl, rfl⟩
  go_wp2
  go_ret2
  exact ⟨rfl, Below.refl _ _⟩
set_option maxHeartbeats 1000000 in
theorem rdo9_6 (s t hi lo : Nat) (hs : s < 4294967296) (ht : t < 4294967296) (hh : hi < 4294967296) (hl : lo < 4294967296) (w : World) : Calls Try.prog 9 #[.string ⟨#[100, 105, 118]⟩, .int .u32 (s : Int), .int .u32 (t : Int), .int .u32 (hi : Int), .int .u32 (lo : Int)] w fun e w' => e = .returned (.tuple #[.int .u32 ((workN 6 s t (hi * 4294967296 + lo) / 4294967296 : Nat) : Int), .int .u32 ((workN 6 s t (hi * 4294967296 + lo) % 4294967296 : Nat) : Int)]) ∧ Below w.heap.size w w' := by
  have hj : bits .or .u64 ((hi : Int) * 4294967296) (lo : Int) = ((hi * 4294967296 + lo : Nat) : Int) := join_key hi lo hh hl
  have hb0 : hi * 4294967296 + lo < 18446744073709551616 := by omega
  by_cases h0 : t = 0
  · subst h0
    rw [wk_6, dv_zero, (hl_div s 4294967295 (by decide)).1, (hl_div s 4294967295 (by decide)).2]
    generalize hi * 4294967296 + lo = b at *
    clear hs ht hh hl hb0
    go_enter Try.func9, Try.ntmps9
    go_wp2
    go_ret2
    exact ⟨rfl, Below.refl _ _⟩
  · have hz : ((t : Int) == 0) = false := by rw [beq_eq_false_iff_ne]; omega
    have hz2 : (t : Int) ≠ 0 := by omega
    rw [wk_6, dv_ne true s t h0, show rd true s = sg s from rfl, show rd true t = sg t from rfl, (hl_div _ _ (outN_lt _)).1, (hl_div _ _ (outN_lt _)).2]
    have K1 : Hid (∀ w, Calls Try.prog 27 #[.int .u32 (s : Int), .int .u32 (t : Int)] w fun e w' => e = .returned (.tuple #[.int .u32 ((outN ((sg s).tmod (sg t)) : Nat) : Int), .int .u32 ((outN ((sg s).tdiv (sg t)) : Nat) : Int)]) ∧ w' = w) := part27 s t hs ht h0
    generalize outN ((sg s).tmod (sg t)) = x at *
    generalize outN ((sg s).tdiv (sg t)) = y at *
    generalize hi * 4294967296 + lo = b at *
    clear hs ht hh hl hb0 h0
    go_enter Try.func9, Try.ntmps9
    go_wp2_with fail
    refine (K1.out _).mono ?_
    rintro e w1 ⟨rfl, rfl⟩
    go_wp2
    go_ret2
    exact ⟨rfl, Below.refl _ _⟩
set_option maxHeartbeats 1000000 in
theorem rdo9_7 (s t hi lo : Nat) (hs : s < 4294967296) (ht : t < 4294967296) (hh : hi < 4294967296) (hl : lo < 4294967296) (w : World) : Calls Try.prog 9 #[.string ⟨#[100, 105, 118, 117]⟩, .int .u32 (s : Int), .int .u32 (t : Int), .int .u32 (hi : Int), .int .u32 (lo : Int)] w fun e w' => e = .returned (.tuple #[.int .u32 ((workN 7 s t (hi * 4294967296 + lo) / 4294967296 : Nat) : Int), .int .u32 ((workN 7 s t (hi * 4294967296 + lo) % 4294967296 : Nat) : Int)]) ∧ Below w.heap.size w w' := by
  have hj : bits .or .u64 ((hi : Int) * 4294967296) (lo : Int) = ((hi * 4294967296 + lo : Nat) : Int) := join_key hi lo hh hl
  have hb0 : hi * 4294967296 + lo < 18446744073709551616 := by omega
  by_cases h0 : t = 0
  · subst h0
    rw [wk_7, dv_zero, (hl_div s 4294967295 (by decide)).1, (hl_div s 4294967295 (by decide)).2]
    generalize hi * 4294967296 + lo = b at *
    clear hs ht hh hl hb0
    go_enter Try.func9, Try.ntmps9
    go_wp2
    go_ret2
    exact ⟨rfl, Below.refl _ _⟩
  · have hz : ((t : Int) == 0) = false := by rw [beq_eq_false_iff_ne]; omega
    have hz2 : (t : Int) ≠ 0 := by omega
    rw [wk_7, dv_ne false s t h0, show rd false s = (s : Int) from rfl, show rd false t = (t : Int) from rfl, (hl_div _ _ (outN_lt _)).1, (hl_div _ _ (outN_lt _)).2]
    have lq : s / t ≤ s := Nat.div_le_self _ _
    have lr : s % t ≤ s := Nat.mod_le _ _
    have tm : (s : Int).tmod (t : Int) = ((s % t : Nat) : Int) := by rw [Int.tmod_eq_emod_of_nonneg (by omega)]; simp
    have td : (s : Int).tdiv (t : Int) = ((s / t : Nat) : Int) := by rw [Int.tdiv_eq_ediv_of_nonneg (by omega)]; simp
    have dr : Hid (((outN ((s : Int).tmod (t : Int)) : Nat) : Int) = ((s % t : Nat) : Int)) := psO _ _ (by omega) tm
    have dq : Hid (((outN ((s : Int).tdiv (t : Int)) : Nat) : Int) = ((s / t : Nat) : Int)) := psO _ _ (by omega) td
    have em : Hid (((s % t : Nat) : Int) = (s : Int) % (t : Int)) := by show _ = _; simp
    have ed : Hid (((s / t : Nat) : Int) = (s : Int) / (t : Int)) := by show _ = _; simp
    generalize outN ((s : Int).tmod (t : Int)) = x at *
    generalize outN ((s : Int).tdiv (t : Int)) = y at *
    generalize hi * 4294967296 + lo = b at *
    have HS : Hid (((s / t : Nat) : Int) < 4294967296 ∧ ((s % t : Nat) : Int) < 4294967296) := by show _ ∧ _; omega
    clear hs ht hh hl hb0 h0 tm td lq lr
    go_enter Try.func9, Try.ntmps9
    go_wp2
    go_quiet (fail)
    go_wp2
    go_ret2
    have dr := dr.out
    have dq := dq.out
    have em := em.out
    have ed := ed.out
    have HS := HS.out
    exact ⟨ret_two (by omega) (by omega), below_drewN (Below.refl _ _) _⟩
set_option maxHeartbeats 1000000 in
theorem rdo9_8 (s t hi lo : Nat) (hs : s < 4294967296) (ht : t < 4294967296) (hh : hi < 4294967296) (hl : lo < 4294967296) (w : World) : Calls Try.prog 9 #[.string ⟨#[109, 116, 104, 105]⟩, .int .u32 (s : Int), .int .u32 (t : Int), .int .u32 (hi : Int), .int .u32 (lo : Int)] w fun e w' => e = .returned (.tuple #[.int .u32 ((workN 8 s t (hi * 4294967296 + lo) / 4294967296 : Nat) : Int), .int .u32 ((workN 8 s t (hi * 4294967296 + lo) % 4294967296 : Nat) : Int)]) ∧ Below w.heap.size w w' := by
  have hj : bits .or .u64 ((hi : Int) * 4294967296) (lo : Int) = ((hi * 4294967296 + lo : Nat) : Int) := join_key hi lo hh hl
  have hb0 : hi * 4294967296 + lo < 18446744073709551616 := by omega
  rw [wk_8, hl_mod hi lo hl, (hl_div s lo hl).1, (hl_div s lo hl).2]
  generalize hi * 4294967296 + lo = b at *
  clear hs ht hh hl hb0
  go_enter Try.func9, Try.ntmps9
  go_wp2
  go_ret2
  exact ⟨rfl, Below.refl _ _⟩
set_option maxHeartbeats 1000000 in
theorem rdo9_9 (s t hi lo : Nat) (hs : s < 4294967296) (ht : t < 4294967296) (hh : hi < 4294967296) (hl : lo < 4294967296) (w : World) : Calls Try.prog 9 #[.string ⟨#[109, 116, 108, 111]⟩, .int .u32 (s : Int), .int .u32 (t : Int), .int .u32 (hi : Int), .int .u32 (lo : Int)] w fun e w' => e = .returned (.tuple #[.int .u32 ((workN 9 s t (hi * 4294967296 + lo) / 4294967296 : Nat) : Int), .int .u32 ((workN 9 s t (hi * 4294967296 + lo) % 4294967296 : Nat) : Int)]) ∧ Below w.heap.size w w' := by
  have hj : bits .or .u64 ((hi : Int) * 4294967296) (lo : Int) = ((hi * 4294967296 + lo : Nat) : Int) := join_key hi lo hh hl
  have hb0 : hi * 4294967296 + lo < 18446744073709551616 := by omega
  rw [wk_9, (hl_div hi lo hl).1, (hl_div hi s hs).1, (hl_div hi s hs).2]
  generalize hi * 4294967296 + lo = b at *
  clear hs ht hh hl hb0
  go_enter Try.func9, Try.ntmps9
  go_wp2
  go_ret2
  exact ⟨rfl, Below.refl _ _⟩
set_option maxHeartbeats 1000000 in
theorem rdo9_no (n : ByteArray) (h : NoneW n) (s t hi lo : Nat) (w : World) : Calls Try.prog 9 #[.string n, .int .u32 (s : Int), .int .u32 (t : Int), .int .u32 (hi : Int), .int .u32 (lo : Int)] w fun e w' => e = .returned (.tuple #[.int .u32 (hi : Int), .int .u32 (lo : Int)]) ∧ Below w.heap.size w w' := by
  obtain ⟨n0, n1, n2, n3, n4, n5, n6, n7, n8, n9⟩ := h
  go_enter Try.func9, Try.ntmps9
  go_wp2
  go_ret2
  exact ⟨rfl, Below.refl _ _⟩
theorem rdo9 (n : ByteArray) (s t hi lo : Nat) (hs : s < 4294967296) (ht : t < 4294967296) (hh : hi < 4294967296) (hl : lo < 4294967296) (w : World) : Calls Try.prog 9 #[.string n, .int .u32 (s : Int), .int .u32 (t : Int), .int .u32 (hi : Int), .int .u32 (lo : Int)] w fun e w' => DoIs n s t hi lo e ∧ Below w.heap.size w w' := by
  rcases idx_cases n with h | h | h | h | h | h | h | h | h | h | h
  · subst h
    unfold DoIs
    rw [do_at idx_0]
    exact rdo9_0 s t hi lo hs ht hh hl w
  · subst h
    unfold DoIs
    rw [do_at idx_1]
    exact rdo9_1 s t hi lo hs ht hh hl w
  · subst h
    unfold DoIs
    rw [do_at idx_2]
    exact rdo9_2 s t hi lo hs ht hh hl w
  · subst h
    unfold DoIs
    rw [do_at idx_3]
    exact rdo9_3 s t hi lo hs ht hh hl w
  · subst h
    unfold DoIs
    rw [do_at idx_4]
    exact rdo9_4 s t hi lo hs ht hh hl w
  · subst h
    unfold DoIs
    rw [do_at idx_5]
    exact rdo9_5 s t hi lo hs ht hh hl w
  · subst h
    unfold DoIs
    rw [do_at idx_6]
    exact rdo9_6 s t hi lo hs ht hh hl w
  · subst h
    unfold DoIs
    rw [do_at idx_7]
    exact rdo9_7 s t hi lo hs ht hh hl w
  · subst h
    unfold DoIs
    rw [do_at idx_8]
    exact rdo9_8 s t hi lo hs ht hh hl w
  · subst h
    unfold DoIs
    rw [do_at idx_9]
    exact rdo9_9 s t hi lo hs ht hh hl w
  · unfold DoIs
    rw [do_no h]
    exact rdo9_no n (none_of h) s t hi lo w
end Go.Proofs.Ytbdhgfjhgfohcaa
