/- What is proved here: the functions that wide's instructions stand for. -/
import Derived.Test.YtbdhgfjhgfohcaaWa
namespace Go.Proofs.Ytbdhgfjhgfohcaa
open Go.RowKit
set_option linter.unusedVariables false
set_option linter.unusedSimpArgs false
set_option maxRecDepth 100000
/-- What an instruction makes of Hi and Lo as one number. -/
def workN (k s t b : Nat) : Nat := match k with
  | 0 => prN true s t
  | 1 => prN false s t
  | 2 => outW ((b : Int) + (prN true s t : Int))
  | 3 => outW ((b : Int) + (prN false s t : Int))
  | 4 => outW ((b : Int) - (prN true s t : Int))
  | 5 => outW ((b : Int) - (prN false s t : Int))
  | 6 => dvN true s t
  | 7 => dvN false s t
  | 8 => s * 4294967296 + b % 4294967296
  | 9 => b / 4294967296 * 4294967296 + s
  | _ => b
theorem w8_lt (s b : Nat) (hs : s < 4294967296) : s * 4294967296 + b % 4294967296 < 18446744073709551616 := by omega
theorem w9_lt (s b : Nat) (hs : s < 4294967296) (hb : b < 18446744073709551616) : b / 4294967296 * 4294967296 + s < 18446744073709551616 := by omega
theorem work_lt (k s t b : Nat) (hs : s < 4294967296) (ht : t < 4294967296) (hb : b < 18446744073709551616) : workN k s t b < 18446744073709551616 := by
  match k with
  | 0 => exact prN_lt true s t
  | 1 => exact prN_lt false s t
  | 2 => exact outW_lt _
  | 3 => exact outW_lt _
  | 4 => exact outW_lt _
  | 5 => exact outW_lt _
  | 6 => exact dvN_lt true s t hs
  | 7 => exact dvN_lt false s t hs
  | 8 => exact w8_lt s b hs
  | 9 => exact w9_lt s b hs hb
  | _ + 10 => exact hb
set_option maxHeartbeats 1000000 in
theorem clo36 (s t b : Nat) (hs : s < 4294967296) (ht : t < 4294967296) (hb : b < 18446744073709551616) (ps pt : Addr) (w : World) (cs : w.cell? ps = some (.int .u32 (s : Int))) (ct : w.cell? pt = some (.int .u32 (t : Int))) :
    Calls Try.prog 36 #[.int .u64 (b : Int), .pointer (some ps), .pointer (some pt)] w fun e w' => e = .returned (.int .u64 ((workN 0 s t b : Nat) : Int)) ∧ Below w.heap.size w w' := by
  rw [show workN 0 s t b = prN true s t from rfl]
  have K : Hid (∀ w, Calls Try.prog 37 #[.int .u32 (s : Int), .int .u32 (t : Int), .func (.func 38) #[] #[]] w fun e w' => e = .returned (.int .u64 ((prN true s t : Nat) : Int)) ∧ w' = w) := product37 true s t hs ht
  have lp := prN_lt true s t
  generalize prN true s t = p at *
  clear hs ht hb lp
  go_enter Try.func36, Try.ntmps36
  go_wp2_with fail
  refine (K.out _).mono ?_
  rintro e w1 ⟨rfl, rfl⟩
  go_wp2
  go_ret
  exact ⟨rfl, Below.refl _ _⟩
set_option maxHeartbeats 1000000 in
theorem clo39 (s t b : Nat) (hs : s < 4294967296) (ht : t < 4294967296) (hb : b < 18446744073709551616) (ps pt : Addr) (w : World) (cs : w.cell? ps = some (.int .u32 (s : Int))) (ct : w.cell? pt = some (.int .u32 (t : Int))) :
    Calls Try.prog 39 #[.int .u64 (b : Int), .pointer (some ps), .pointer (some pt)] w fun e w' => e = .returned (.int .u64 ((workN 1 s t b : Nat) : Int)) ∧ Below w.heap.size w w' := by
  rw [show workN 1 s t b = prN false s t from rfl]
  have K : Hid (∀ w, Calls Try.prog 37 #[.int .u32 (s : Int), .int .u32 (t : Int), .func (.func 40) #[] #[]] w fun e w' => e = .returned (.int .u64 ((prN false s t : Nat) : Int)) ∧ w' = w) := product37 false s t hs ht
  have lp := prN_lt false s t
  generalize prN false s t = p at *
  clear hs ht hb lp
  go_enter Try.func39, Try.ntmps39
  go_wp2_with fail
  refine (K.out _).mono ?_
  rintro e w1 ⟨rfl, rfl⟩
  go_wp2
  go_ret
  exact ⟨rfl, Below.refl _ _⟩
set_option maxHeartbeats 1000000 in
theorem clo41 (s t b : Nat) (hs : s < 4294967296) (ht : t < 4294967296) (hb : b < 18446744073709551616) (ps pt : Addr) (w : World) (cs : w.cell? ps = some (.int .u32 (s : Int))) (ct : w.cell? pt = some (.int .u32 (t : Int))) :
    Calls Try.prog 41 #[.int .u64 (b : Int), .pointer (some ps), .pointer (some pt)] w fun e w' => e = .returned (.int .u64 ((workN 2 s t b : Nat) : Int)) ∧ Below w.heap.size w w' := by
  rw [show workN 2 s t b = outW ((b : Int) + (prN true s t : Int)) from rfl]
  have K : Hid (∀ w, Calls Try.prog 37 #[.int .u32 (s : Int), .int .u32 (t : Int), .func (.func 38) #[] #[]] w fun e w' => e = .returned (.int .u64 ((prN true s t : Nat) : Int)) ∧ w' = w) := product37 true s t hs ht
  have lp := prN_lt true s t
  generalize prN true s t = p at *
  have hk : Hid (IntKind.u64.wrap ((b : Int) + (p : Int)) = ((outW ((b : Int) + (p : Int)) : Nat) : Int)) := by show _ = _; rw [outW_is, IntKind.wrap_u64]
  generalize outW ((b : Int) + (p : Int)) = z at *
  clear hs ht hb lp
  go_enter Try.func41, Try.ntmps41
  go_wp2_with fail
  refine (K.out _).mono ?_
  rintro e w1 ⟨rfl, rfl⟩
  go_wp2
  go_ret
  exact ⟨ret_int hk.out, Below.refl _ _⟩
set_option maxHeartbeats 1000000 in
theorem clo42 (s t b : Nat) (hs : s < 4294967296) (ht : t < 4294967296) (hb : b < 18446744073709551616) (ps pt : Addr) (w : World) (cs : w.cell? ps = some (.int .u32 (s : Int))) (ct : w.cell? pt = some (.int .u32 (t : Int))) :
    Calls Try.prog 42 #[.int .u64 (b : Int), .pointer (some ps), .pointer (some pt)] w fun e w' => e = .returned (.int .u64 ((workN 3 s t b : Nat) : Int)) ∧ Below w.heap.size w w' := by
  rw [show workN 3 s t b = outW ((b : Int) + (prN false s t : Int)) from rfl]
  have K : Hid (∀ w, Calls Try.prog 37 #[.int .u32 (s : Int), .int .u32 (t : Int), .func (.func 40) #[] #[]] w fun e w' => e = .returned (.int .u64 ((prN false s t : Nat) : Int)) ∧ w' = w) := product37 false s t hs ht
  have lp := prN_lt false s t
  generalize prN false s t = p at *
  have hk : Hid (IntKind.u64.wrap ((b : Int) + (p : Int)) = ((outW ((b : Int) + (p : Int)) : Nat) : Int)) := by show _ = _; rw [outW_is, IntKind.wrap_u64]
  generalize outW ((b : Int) + (p : Int)) = z at *
  clear hs ht hb lp
  go_enter Try.func42, Try.ntmps42
  go_wp2_with fail
  refine (K.out _).mono ?_
  rintro e w1 ⟨rfl, rfl⟩
  go_wp2
  go_ret
  exact ⟨ret_int hk.out, Below.refl _ _⟩
set_option maxHeartbeats 1000000 in
theorem clo43 (s t b : Nat) (hs : s < 4294967296) (ht : t < 4294967296) (hb : b < 18446744073709551616) (ps pt : Addr) (w : World) (cs : w.cell? ps = some (.int .u32 (s : Int))) (ct : w.cell? pt = some (.int .u32 (t : Int))) :
    Calls Try.prog 43 #[.int .u64 (b : Int), .pointer (some ps), .pointer (some pt)] w fun e w' => e = .returned (.int .u64 ((workN 4 s t b : Nat) : Int)) ∧ Below w.heap.size w w' := by
  rw [show workN 4 s t b = outW ((b : Int) - (prN true s t : Int)) from rfl]
  have K : Hid (∀ w, Calls Try.prog 37 #[.int .u32 (s : Int), .int .u32 (t : Int), .func (.func 38) #[] #[]] w fun e w' => e = .returned (.int .u64 ((prN true s t : Nat) : Int)) ∧ w' = w) := product37 true s t hs ht
  have lp := prN_lt true s t
  generalize prN true s t = p at *
  have hk : Hid (IntKind.u64.wrap ((b : Int) - (p : Int)) = ((outW ((b : Int) - (p : Int)) : Nat) : Int)) := by show _ = _; rw [outW_is, IntKind.wrap_u64]
  generalize outW ((b : Int) - (p : Int)) = z at *
  clear hs ht hb lp
  go_enter Try.func43, Try.ntmps43
  go_wp2_with fail
  refine (K.out _).mono ?_
  rintro e w1 ⟨rfl, rfl⟩
  go_wp2
  go_ret
  exact ⟨ret_int hk.out, Below.refl _ _⟩
set_option maxHeartbeats 1000000 in
theorem clo44 (s t b : Nat) (hs : s < 4294967296) (ht : t < 4294967296) (hb : b < 18446744073709551616) (ps pt : Addr) (w : World) (cs : w.cell? ps = some (.int .u32 (s : Int))) (ct : w.cell? pt = some (.int .u32 (t : Int))) :
    Calls Try.prog 44 #[.int .u64 (b : Int), .pointer (some ps), .pointer (some pt)] w fun e w' => e = .returned (.int .u64 ((workN 5 s t b : Nat) : Int)) ∧ Below w.heap.size w w' := by
  rw [show workN 5 s t b = outW ((b : Int) - (prN false s t : Int)) from rfl]
  have K : Hid (∀ w, Calls Try.prog 37 #[.int .u32 (s : Int), .int .u32 (t : Int), .func (.func 40) #[] #[]] w fun e w' => e = .returned (.int .u64 ((prN false s t : Nat) : Int)) ∧ w' = w) := product37 false s t hs ht
  have lp := prN_lt false s t
  generalize prN false s t = p at *
  have hk : Hid (IntKind.u64.wrap ((b : Int) - (p : Int)) = ((outW ((b : Int) - (p : Int)) : Nat) : Int)) := by show _ = _; rw [outW_is, IntKind.wrap_u64]
  generalize outW ((b : Int) - (p : Int)) = z at *
  clear hs ht hb lp
  go_enter Try.func44, Try.ntmps44
  go_wp2_with fail
  refine (K.out _).mono ?_
  rintro e w1 ⟨rfl, rfl⟩
  go_wp2
  go_ret
  exact ⟨ret_int hk.out, Below.refl _ _⟩
set_option maxHeartbeats 1000000 in
theorem clo45 (s t b : Nat) (hs : s < 4294967296) (ht : t < 4294967296) (hb : b < 18446744073709551616) (ps pt : Addr) (w : World) (cs : w.cell? ps = some (.int .u32 (s : Int))) (ct : w.cell? pt = some (.int .u32 (t : Int))) :
    Calls Try.prog 45 #[.int .u64 (b : Int), .pointer (some ps), .pointer (some pt)] w fun e w' => e = .returned (.int .u64 ((workN 6 s t b : Nat) : Int)) ∧ Below w.heap.size w w' := by
  rw [show workN 6 s t b = dvN true s t from rfl]
  have K : Hid (∀ w, Calls Try.prog 46 #[.int .u32 (s : Int), .int .u32 (t : Int), .func (.func 38) #[] #[]] w fun e w' => e = .returned (.int .u64 ((dvN true s t : Nat) : Int)) ∧ Below w.heap.size w w') := divided46 true s t hs ht
  generalize dvN true s t = p at *
  clear hs ht
  go_enter Try.func45, Try.ntmps45
  go_wp2_with fail
  refine (K.out _).mono ?_
  rintro e w1 ⟨rfl, hb1⟩
  go_wp2
  go_ret
  exact ⟨rfl, hb1⟩
set_option maxHeartbeats 1000000 in
theorem clo47 (s t b : Nat) (hs : s < 4294967296) (ht : t < 4294967296) (hb : b < 18446744073709551616) (ps pt : Addr) (w : World) (cs : w.cell? ps = some (.int .u32 (s : Int))) (ct : w.cell? pt = some (.int .u32 (t : Int))) :
    Calls Try.prog 47 #[.int .u64 (b : Int), .pointer (some ps), .pointer (some pt)] w fun e w' => e = .returned (.int .u64 ((workN 7 s t b : Nat) : Int)) ∧ Below w.heap.size w w' := by
  rw [show workN 7 s t b = dvN false s t from rfl]
  have K : Hid (∀ w, Calls Try.prog 46 #[.int .u32 (s : Int), .int .u32 (t : Int), .func (.func 40) #[] #[]] w fun e w' => e = .returned (.int .u64 ((dvN false s t : Nat) : Int)) ∧ Below w.heap.size w w') := divided46 false s t hs ht
  generalize dvN false s t = p at *
  clear hs ht
  go_enter Try.func47, Try.ntmps47
  go_wp2_with fail
  refine (K.out _).mono ?_
  rintro e w1 ⟨rfl, hb1⟩
  go_wp2
  go_ret
  exact ⟨rfl, hb1⟩
set_option maxHeartbeats 1000000 in
theorem clo48 (s t b : Nat) (hs : s < 4294967296) (ht : t < 4294967296) (hb : b < 18446744073709551616) (ps pt : Addr) (w : World) (cs : w.cell? ps = some (.int .u32 (s : Int))) :
    Calls Try.prog 48 #[.int .u64 (b : Int), .pointer (some ps)] w fun e w' => e = .returned (.int .u64 ((workN 8 s t b : Nat) : Int)) ∧ Below w.heap.size w w' := by
  rw [show workN 8 s t b = s * 4294967296 + b % 4294967296 from rfl]
  have K : Hid (∀ w, Calls Try.prog 50 #[.int .u64 (b : Int)] w fun e w' => e = .returned (.int .u32 ((b % 4294967296 : Nat) : Int)) ∧ w' = w) := low50 b hb
  have K2 : Hid (∀ w, Calls Try.prog 49 #[.int .u32 (s : Int), .int .u32 ((b % 4294967296 : Nat) : Int)] w fun e w' => e = .returned (.int .u64 ((s * 4294967296 + b % 4294967296 : Nat) : Int)) ∧ w' = w) := joined49 s _ hs (by omega)
  generalize s * 4294967296 + b % 4294967296 = z at *
  generalize b % 4294967296 = x at *
  clear hs ht hb
  go_enter Try.func48, Try.ntmps48
  go_wp2
  go_quiet (first | (go_at_call 50; exact Calls.quiet_of_same (K.out _)) | (go_at_call 49; exact Calls.quiet_of_same (K2.out _)))
  go_wp2
  go_ret
  exact ⟨rfl, below_drewN (Below.refl _ _) _⟩
set_option maxHeartbeats 1000000 in
theorem clo51 (s t b : Nat) (hs : s < 4294967296) (ht : t < 4294967296) (hb : b < 18446744073709551616) (ps pt : Addr) (w : World) (cs : w.cell? ps = some (.int .u32 (s : Int))) :
    Calls Try.prog 51 #[.int .u64 (b : Int), .pointer (some ps)] w fun e w' => e = .returned (.int .u64 ((workN 9 s t b : Nat) : Int)) ∧ Below w.heap.size w w' := by
  rw [show workN 9 s t b = b / 4294967296 * 4294967296 + s from rfl]
  have K : Hid (∀ w, Calls Try.prog 52 #[.int .u64 (b : Int)] w fun e w' => e = .returned (.int .u32 ((b / 4294967296 : Nat) : Int)) ∧ w' = w) := high52 b hb
  have K2 : Hid (∀ w, Calls Try.prog 49 #[.int .u32 ((b / 4294967296 : Nat) : Int), .int .u32 (s : Int)] w fun e w' => e = .returned (.int .u64 ((b / 4294967296 * 4294967296 + s : Nat) : Int)) ∧ w' = w) := joined49 _ s (by omega) hs
  generalize b / 4294967296 * 4294967296 + s = z at *
  generalize b / 4294967296 = x at *
  clear hs ht hb
  go_enter Try.func51, Try.ntmps51
  go_wp2
  go_quiet (first | (go_at_call 52; exact Calls.quiet_of_same (K.out _)) | (go_at_call 49; exact Calls.quiet_of_same (K2.out _)))
  go_wp2
  go_ret
  exact ⟨rfl, below_drewN (Below.refl _ _) _⟩
end Go.Proofs.Ytbdhgfjhgfohcaa
