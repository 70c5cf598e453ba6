/- What is proved here: the first fault of some bytes. -/
import Derived.Test.YtkpmkgkfpikpfaaGreatSpan
import Derived.Test.YtkpmkgkfpikpfaaGreatHeld
import Derived.Test.YtkpmkgkfpikpfaaGreatSl
import Derived.Test.YtkpmkgkfpikpfaaGreatBitsOf
import Derived.Deep.RegionHeld3
namespace Go.Proofs.YtkpmkgkfpikpfaaGreat
open Go.RowKit
set_option maxRecDepth 100000
set_option linter.unusedVariables false
def pagesOk (page n : Nat) : Bool := decide (n ≠ 0 ∧ page + n ≤ 1125899906842624)
theorem arePages36 (page n : Nat) (h1 : page < 18446744073709551616) (h2 : n < 18446744073709551616) (w : World) :
  Calls Tryz.prog 115 #[.int .u64 (page : Int), .int .u64 (n : Int)] w fun e w' => e = .returned (.bool (pagesOk page n)) ∧ w' = w := by
 by_cases a : n = 0
 ·subst a
  go_enter Tryz.func115, Tryz.ntmps115
  go_wp2
  go_ret
  exact ⟨by simp [pagesOk], rfl⟩
 ·by_cases b : n ≤ 1125899906842624
  ·have e : IntKind.u64.wrap (1125899906842624 - (n : Int)) = ((1125899906842624 - n : Nat) : Int) := by rw [IntKind.wrap_u64]; omega
   by_cases c : page ≤ 1125899906842624 - n
   ·have hp : pagesOk page n = true := by simp [pagesOk]; omega
    rw [hp]
    go_enter Tryz.func115, Tryz.ntmps115
    go_wp2
    go_ret
    exact ⟨by first | rfl | (simp; done) | (simp; omega), rfl⟩
   ·have hp : pagesOk page n = false := by simp [pagesOk]; omega
    rw [hp]
    go_enter Tryz.func115, Tryz.ntmps115
    go_wp2
    go_ret
    exact ⟨by first | rfl | (simp; done) | (simp; omega), rfl⟩
  ·go_enter Tryz.func115, Tryz.ntmps115
   go_wp2
   go_ret
   refine ⟨?_, rfl⟩
   simp [pagesOk]
   omega
def protOk (prot : Int) : Bool := decide (0 ≤ prot ∧ prot ≤ 7)
theorem isProt31 (prot : Int) (w : World) : Calls Tryz.prog 70 #[.int .i64 prot] w fun e w' => e = .returned (.bool (protOk prot)) ∧ w' = w := by
 by_cases a : 0 ≤ prot
 ·go_enter Tryz.func70, Tryz.ntmps70
  go_wp2
  go_ret
  exact ⟨by simp [protOk, a], rfl⟩
 ·go_enter Tryz.func70, Tryz.ntmps70
  go_wp2
  go_ret
  exact ⟨by simp [protOk]; omega, rfl⟩
theorem wrong41 (page n : Nat) (prot : Int) (h1 : page < 18446744073709551616) (h2 : n < 18446744073709551616) (w : World) :
  Calls Tryz.prog 84 #[.int .u64 (page : Int), .int .u64 (n : Int), .int .i64 prot] w fun e w' => e = .returned (.bool (!(pagesOk page n && protOk prot))) ∧ w' = w := by
 have hP : pagesOk page n = decide ((n : Int) ≠ 0 ∧ (page : Int) + n ≤ 1125899906842624) := by
  unfold pagesOk; congr 1; simp; omega
 rw [hP, protOk]
 obtain ⟨p, hp⟩ : ∃ p : Int, p = page := ⟨_, rfl⟩
 obtain ⟨m, hm⟩ : ∃ m : Int, m = n := ⟨_, rfl⟩
 have g1 : 0 ≤ p := by omega
 have g2 : p < 18446744073709551616 := by omega
 have g3 : 0 ≤ m := by omega
 rw [← hp, ← hm]
 clear hp hm hP h1 h2
 by_cases a : m = 0
 ·subst a
  go_enter Tryz.func84, Tryz.ntmps84
  go_wp2
  go_ret
  exact ⟨by simp, rfl⟩
 by_cases b : 1125899906842624 ≤ p
 ·go_enter Tryz.func84, Tryz.ntmps84
  go_wp2
  go_ret
  exact ⟨by simp; omega, rfl⟩
 have e : IntKind.u64.wrap (1125899906842624 - p) = 1125899906842624 - p := by rw [IntKind.wrap_u64]; omega
 by_cases c : 1125899906842624 - p < m
 ·go_enter Tryz.func84, Tryz.ntmps84
  go_wp2
  go_ret
  exact ⟨by simp; omega, rfl⟩
 by_cases d : prot < 0
 ·go_enter Tryz.func84, Tryz.ntmps84
  go_wp2
  go_ret
  exact ⟨by simp; omega, rfl⟩
 by_cases d2 : 7 < prot
 ·rw [show (!(decide (m ≠ 0 ∧ p + m ≤ 1125899906842624) && decide (0 ≤ prot ∧ prot ≤ 7))) = true by simp; omega]
  go_enter Tryz.func84, Tryz.ntmps84
  go_wp2
  go_ret
  exact ⟨by first | rfl | (simp; done) | (simp; omega), rfl⟩
 ·rw [show (!(decide (m ≠ 0 ∧ p + m ≤ 1125899906842624) && decide (0 ≤ prot ∧ prot ≤ 7))) = false by simp; omega]
  go_enter Tryz.func84, Tryz.ntmps84
  go_wp2
  go_ret
  exact ⟨by first | rfl | (simp; done) | (simp; omega), rfl⟩
theorem cellOf45 (a : Nat) (h : a < 18446744073709551616) (w : World) : Calls Tryz.prog 117 #[.int .u64 (a : Int)] w fun e w' => e = .returned (.int .u64 ((a - a % 8 : Nat) : Int)) ∧ w' = w := by
 go_enter Tryz.func117, Tryz.ntmps117
 go_wp2
 go_ret
 refine ⟨?_, rfl⟩
 simp
 omega
def within (a at_ n : Nat) : Bool := decide (at_ ≤ a ∧ a < at_ + n)
theorem inside53 (a at_ n : Nat) (h1 : a < 18446744073709551616) (h2 : at_ < 18446744073709551616) (h3 : n < 18446744073709551616) (w : World) :
  Calls Tryz.prog 85 #[.int .u64 (a : Int), .int .u64 (at_ : Int), .int .u64 (n : Int)] w fun e w' => e = .returned (.bool (within a at_ n)) ∧ w' = w := by
 by_cases c : at_ ≤ a
 ·by_cases d : a < at_ + n
  ·have hp : within a at_ n = true := by simp [within]; omega
   rw [hp]
   go_enter Tryz.func85, Tryz.ntmps85
   go_wp2
   go_ret
   exact ⟨by simp; omega, rfl⟩
  ·have hp : within a at_ n = false := by simp [within]; omega
   rw [hp]
   go_enter Tryz.func85, Tryz.ntmps85
   go_wp2
   go_ret
   exact ⟨by simp; omega, rfl⟩
 ·go_enter Tryz.func85, Tryz.ntmps85
  go_wp2
  go_ret
  refine ⟨?_, rfl⟩
  simp [within]
  omega
def wordN (cs : List (Nat × Int)) (a : Nat) : Nat := (wordOf cs a).toNat
def Words (cs : List (Nat × Int)) : Prop := ∀ x ∈ cs, 0 ≤ x.2 ∧ x.2 < 18446744073709551616
theorem wordN_lt (cs : List (Nat × Int)) (h : Words cs) (a : Nat) : wordN cs a < 18446744073709551616 := by
 unfold wordN wordOf
 split
 ·rename_i x hx
  have := h x (List.mem_of_find?_eq_some hx)
  omega
 ·decide
theorem wordOf_eq (cs : List (Nat × Int)) (h : Words cs) (a : Nat) : wordOf cs a = ((wordN cs a : Nat) : Int) := by
 unfold wordN wordOf
 split
 ·rename_i x hx
  have := h x (List.mem_of_find?_eq_some hx)
  omega
 ·decide
def cellOf (a : Nat) : Nat := a - a % 8
theorem cellOf_facts (a : Nat) : cellOf a % 8 = 0 ∧ cellOf a ≤ a ∧ a ≤ cellOf a + 7 := by unfold cellOf; omega
end Go.Proofs.YtkpmkgkfpikpfaaGreat
