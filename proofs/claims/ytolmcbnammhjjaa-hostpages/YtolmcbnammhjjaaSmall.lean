/- What is proved here: the small tests and sums of the host. -/
import Derived.Test.YtolmcbnammhjjaaSl
namespace Go.Proofs.Ytolmcbnammhjjaa
open Go.RowKit
set_option linter.unusedVariables false
/-- There are n pages from page on. -/
def pagesOk (page n : Nat) : Bool := decide (n ≠ 0 ∧ page + n ≤ 1125899906842624)
theorem arePages36 (page n : Nat) (h1 : page < 18446744073709551616) (h2 : n < 18446744073709551616) (w : World) :
    Calls Try.prog 36 #[.int .u64 (page : Int), .int .u64 (n : Int)] w fun e w' => e = .returned (.bool (pagesOk page n)) ∧ w' = w := by
  by_cases a : n = 0
  · subst a
    go_enter Try.func36, Try.ntmps36
    go_wp2
    go_ret
    exact ⟨by simp [pagesOk], rfl⟩
  · by_cases b : n ≤ 1125899906842624
    · have e : IntKind.u64.wrap (1125899906842624 - (n : Int)) = ((1125899906842624 - n : Nat) : Int) := by rw [IntKind.wrap_u64]; omega
      by_cases c : page ≤ 1125899906842624 - n
      · have hp : pagesOk page n = true := by simp [pagesOk]; omega
        rw [hp]
        go_enter Try.func36, Try.ntmps36
        go_wp2
        go_ret
        exact ⟨by first | rfl | (simp; done) | (simp; omega), rfl⟩
      · have hp : pagesOk page n = false := by simp [pagesOk]; omega
        rw [hp]
        go_enter Try.func36, Try.ntmps36
        go_wp2
        go_ret
        exact ⟨by first | rfl | (simp; done) | (simp; omega), rfl⟩
    · go_enter Try.func36, Try.ntmps36
      go_wp2
      go_ret
      refine ⟨?_, rfl⟩
      simp [pagesOk]
      omega
def protOk (prot : Int) : Bool := decide (0 ≤ prot ∧ prot ≤ 7)
theorem isProt31 (prot : Int) (w : World) : Calls Try.prog 31 #[.int .i64 prot] w fun e w' => e = .returned (.bool (protOk prot)) ∧ w' = w := by
  by_cases a : 0 ≤ prot
  · go_enter Try.func31, Try.ntmps31
    go_wp2
    go_ret
    exact ⟨by simp [protOk, a], rfl⟩
  · go_enter Try.func31, Try.ntmps31
    go_wp2
    go_ret
    exact ⟨by simp [protOk]; omega, rfl⟩
theorem wrong41 (page n : Nat) (prot : Int) (h1 : page < 18446744073709551616) (h2 : n < 18446744073709551616) (w : World) :
    Calls Try.prog 41 #[.int .u64 (page : Int), .int .u64 (n : Int), .int .i64 prot] w fun e w' => e = .returned (.bool (!(pagesOk page n && protOk prot))) ∧ w' = w := by
  have hP : pagesOk page n = decide ((n : Int) ≠ 0 ∧ (page : Int) + n ≤ 1125899906842624) := by
    unfold pagesOk; congr 1; simp; omega
  rw [hP, protOk]
  obtain ⟨p, hp⟩ : ∃ p : Int, p = page := ⟨_, rfl⟩
  obtain ⟨m, hm⟩ : ∃ m : Int, m = n := ⟨_, rfl⟩
  have g1 : 0 ≤ p := by omega
  have g2 : p < 18446744073709551616 := by omega
  have g3 : 0 ≤ m := by omega
  rw [← hp, ← hm]
  clear hp hm hP h1 h2
  by_cases a : m = 0
  · subst a
    go_enter Try.func41, Try.ntmps41
    go_wp2
    go_ret
    exact ⟨by simp, rfl⟩
  by_cases b : 1125899906842624 ≤ p
  · go_enter Try.func41, Try.ntmps41
    go_wp2
    go_ret
    exact ⟨by simp; omega, rfl⟩
  have e : IntKind.u64.wrap (1125899906842624 - p) = 1125899906842624 - p := by rw [IntKind.wrap_u64]; omega
  by_cases c : 1125899906842624 - p < m
  · go_enter Try.func41, Try.ntmps41
    go_wp2
    go_ret
    exact ⟨by simp; omega, rfl⟩
  by_cases d : prot < 0
  · go_enter Try.func41, Try.ntmps41
    go_wp2
    go_ret
    exact ⟨by simp; omega, rfl⟩
  by_cases d2 : 7 < prot
  · rw [show (!(decide (m ≠ 0 ∧ p + m ≤ 1125899906842624) && decide (0 ≤ prot ∧ prot ≤ 7))) = true by simp; omega]
    go_enter Try.func41, Try.ntmps41
    go_wp2
    go_ret
    exact ⟨by first | rfl | (simp; done) | (simp; omega), rfl⟩
  · rw [show (!(decide (m ≠ 0 ∧ p + m ≤ 1125899906842624) && decide (0 ≤ prot ∧ prot ≤ 7))) = false by simp; omega]
    go_enter Try.func41, Try.ntmps41
    go_wp2
    go_ret
    exact ⟨by first | rfl | (simp; done) | (simp; omega), rfl⟩
theorem cellOf45 (a : Nat) (h : a < 18446744073709551616) (w : World) : Calls Try.prog 45 #[.int .u64 (a : Int)] w fun e w' => e = .returned (.int .u64 ((a - a % 8 : Nat) : Int)) ∧ w' = w := by
  go_enter Try.func45, Try.ntmps45
  go_wp2
  go_ret
  refine ⟨?_, rfl⟩
  simp
  omega
/-- Is an address one of n from another one on? -/
def within (a at_ n : Nat) : Bool := decide (at_ ≤ a ∧ a < at_ + n)
theorem inside53 (a at_ n : Nat) (h1 : a < 18446744073709551616) (h2 : at_ < 18446744073709551616) (h3 : n < 18446744073709551616) (w : World) :
    Calls Try.prog 53 #[.int .u64 (a : Int), .int .u64 (at_ : Int), .int .u64 (n : Int)] w fun e w' => e = .returned (.bool (within a at_ n)) ∧ w' = w := by
  by_cases c : at_ ≤ a
  · by_cases d : a < at_ + n
    · have hp : within a at_ n = true := by simp [within]; omega
      rw [hp]
      go_enter Try.func53, Try.ntmps53
      go_wp2
      go_ret
      exact ⟨by simp; omega, rfl⟩
    · have hp : within a at_ n = false := by simp [within]; omega
      rw [hp]
      go_enter Try.func53, Try.ntmps53
      go_wp2
      go_ret
      exact ⟨by simp; omega, rfl⟩
  · go_enter Try.func53, Try.ntmps53
    go_wp2
    go_ret
    refine ⟨?_, rfl⟩
    simp [within]
    omega
theorem few8 (am ac : Option Addr) (nm pm nc pc : Nat) (w : World) (h1 : nm ≤ 9223372036854775807) (h2 : nc ≤ 9223372036854775807) :
    Calls Try.prog 8 #[.agg #[.slice am nm pm, .slice ac nc pc]] w fun e w' => e = .returned (.bool (decide (nm ≤ 70 ∧ nc ≤ 200))) ∧ Below w.heap.size w w' := by
  by_cases c : nm ≤ 70
  · go_enter Try.func8, Try.ntmps8
    go_wp2
    go_ret
    refine ⟨by simp [c]; omega, (Below.refl _ _).alloc (Nat.le_refl _) _⟩
  · go_enter Try.func8, Try.ntmps8
    go_wp2
    go_ret
    refine ⟨by simp, (Below.refl _ _).alloc (Nat.le_refl _) _⟩
end Go.Proofs.Ytolmcbnammhjjaa
