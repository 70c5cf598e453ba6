/- What is proved here: the first fault of some bytes. -/
import Derived.Test.YtkpmkgkfpikpfaaGreatSpan
import Derived.Test.YtkpmkgkfpikpfaaGreatHeld
import Derived.Test.YtkpmkgkfpikpfaaGreatSl
import Derived.Test.YtkpmkgkfpikpfaaGreatBitsOf
import Derived.Deep.RegionHeld3
namespace Go.Proofs.YtkpmkgkfpikpfaaGreat
open Go.RowKit
set_option maxRecDepth 100000
set_option linter.unusedVariables false
end Go.Proofs.YtkpmkgkfpikpfaaGreat
namespace Go.Proofs.YtkpmkgkfpikpfaaGreat
open Go.RowKit
set_option maxRecDepth 100000
set_option linter.unusedVariables false
/-- There are n pages from page on. -/
def pagesOk (page n : Nat) : Bool := decide (n ≠ 0 ∧ page + n ≤ 1125899906842624)
theorem arePages36 (page n : Nat) (h1 : page < 18446744073709551616) (h2 : n < 18446744073709551616) (w : World) :
    Calls Tryz.prog 115 #[.int .u64 (page : Int), .int .u64 (n : Int)] w fun e w' => e = .returned (.bool (pagesOk page n)) ∧ w' = w := by
  by_cases a : n = 0
  · subst a
    go_enter Tryz.func115, Tryz.ntmps115
    go_wp2
    go_ret
    exact ⟨by simp [pagesOk], rfl⟩
  · by_cases b : n ≤ 1125899906842624
    · have e : IntKind.u64.wrap (1125899906842624 - (n : Int)) = ((1125899906842624 - n : Nat) : Int) := by rw [IntKind.wrap_u64]; omega
      by_cases c : page ≤ 1125899906842624 - n
      · have hp : pagesOk page n = true := by simp [pagesOk]; omega
        rw [hp]
        go_enter Tryz.func115, Tryz.ntmps115
        go_wp2
        go_ret
        exact ⟨by first | rfl | (simp; done) | (simp; omega), rfl⟩
      · have hp : pagesOk page n = false := by simp [pagesOk]; omega
        rw [hp]
        go_enter Tryz.func115, Tryz.ntmps115
        go_wp2
        go_ret
        exact ⟨by first | rfl | (simp; done) | (simp; omega), rfl⟩
    · go_enter Tryz.func115, Tryz.ntmps115
      go_wp2
      go_ret
      refine ⟨?_, rfl⟩
      simp [pagesOk]
      omega
def protOk (prot : Int) : Bool := decide (0 ≤ prot ∧ prot ≤ 7)
theorem isProt31 (prot : Int) (w : World) : Calls Tryz.prog 70 #[.int .i64 prot] w fun e w' => e = .returned (.bool (protOk prot)) ∧ w' = w := by
  by_cases a : 0 ≤ prot
  · go_enter Tryz.func70, Tryz.ntmps70
    go_wp2
    go_ret
    exact ⟨by simp [protOk, a], rfl⟩
  · go_enter Tryz.func70, Tryz.ntmps70
    go_wp2
    go_ret
    exact ⟨by simp [protOk]; omega, rfl⟩
theorem cellOf45 (a : Nat) (h : a < 18446744073709551616) (w : World) : Calls Tryz.prog 117 #[.int .u64 (a : Int)] w fun e w' => e = .returned (.int .u64 ((a - a % 8 : Nat) : Int)) ∧ w' = w := by
  go_enter Tryz.func117, Tryz.ntmps117
  go_wp2
  go_ret
  refine ⟨?_, rfl⟩
  simp
  omega
/-- Is an address one of n from another one on? -/
def within (a at_ n : Nat) : Bool := decide (at_ ≤ a ∧ a < at_ + n)
end Go.Proofs.YtkpmkgkfpikpfaaGreat
namespace Go.Proofs.YtkpmkgkfpikpfaaGreat
open Go.RowKit
set_option maxRecDepth 100000
set_option linter.unusedVariables false
/-- A cell's word. -/
def wordN (cs : List (Nat × Int)) (a : Nat) : Nat := (wordOf cs a).toNat
/-- Words of 64 bits. -/
def Words (cs : List (Nat × Int)) : Prop := ∀ x ∈ cs, 0 ≤ x.2 ∧ x.2 < 18446744073709551616
theorem wordN_lt (cs : List (Nat × Int)) (h : Words cs) (a : Nat) : wordN cs a < 18446744073709551616 := by
  unfold wordN wordOf
  split
  · rename_i x hx
    have := h x (List.mem_of_find?_eq_some hx)
    omega
  · decide
/-- Where a cell begins. -/
def cellOf (a : Nat) : Nat := a - a % 8
theorem cellOf_facts (a : Nat) : cellOf a % 8 = 0 ∧ cellOf a ≤ a ∧ a ≤ cellOf a + 7 := by unfold cellOf; omega
end Go.Proofs.YtkpmkgkfpikpfaaGreat
