import Derived.Test.YtimfipkbddpdmaaGreatDoorXa
set_option linter.unusedVariables false
set_option linter.unusedSimpArgs false
set_option maxRecDepth 100000
open Go Go.RowKit
namespace Go.Proofs.YtimfipkbddpdmaaGreatDoor.Wd
def workN (k s t b : Nat) : Nat := match k with
 | 0 => prN true s t
 | 1 => prN false s t
 | 2 => outW ((b : Int) + (prN true s t : Int))
 | 3 => outW ((b : Int) + (prN false s t : Int))
 | 4 => outW ((b : Int) - (prN true s t : Int))
 | 5 => outW ((b : Int) - (prN false s t : Int))
 | 6 => dvN true s t
 | 7 => dvN false s t
 | 8 => s * 4294967296 + b % 4294967296
 | 9 => b / 4294967296 * 4294967296 + s
 | _ => b
theorem w8_lt (s b : Nat) (hs : s < 4294967296) : s * 4294967296 + b % 4294967296 < 18446744073709551616 := by omega
theorem w9_lt (s b : Nat) (hs : s < 4294967296) (hb : b < 18446744073709551616) : b / 4294967296 * 4294967296 + s < 18446744073709551616 := by omega
theorem work_lt (k s t b : Nat) (hs : s < 4294967296) (ht : t < 4294967296) (hb : b < 18446744073709551616) : workN k s t b < 18446744073709551616 := by
 match k with
 | 0 => exact prN_lt true s t
 | 1 => exact prN_lt false s t
 | 2 => exact outW_lt _
 | 3 => exact outW_lt _
 | 4 => exact outW_lt _
 | 5 => exact outW_lt _
 | 6 => exact dvN_lt true s t hs
 | 7 => exact dvN_lt false s t hs
 | 8 => exact w8_lt s b hs
 | 9 => exact w9_lt s b hs hb
 | _ + 10 => exact hb
set_option maxHeartbeats 1000000 in
theorem clo36 (s t b : Nat) (hs : s < 4294967296) (ht : t < 4294967296) (hb : b < 18446744073709551616) (ps pt : Addr) (w : World) (cs : w.cell? ps = some (.int .u32 s)) (ct : w.cell? pt = some (.int .u32 t)) :
  Calls Tryz.prog 123 #[.int .u64 b, .pointer (some ps), .pointer (some pt)] w fun e w' => e = .returned (.int .u64 ((workN 0 s t b : Nat) : Int)) /\ Below w.heap.size w w' := by
 rw [show workN 0 s t b = prN true s t from rfl]
 have K : Hid (∀ w, Calls Tryz.prog 124 #[.int .u32 s, .int .u32 t, .func (.func 125) #[] #[]] w fun e w' => e = .returned (.int .u64 ((prN true s t : Nat) : Int)) /\ w' = w) := product37 true s t hs ht
 have lp := prN_lt true s t
 generalize prN true s t = p at *
 clear hs ht hb lp
 go_enter Tryz.func123, Tryz.ntmps123
 go_wp2_with fail
 refine (K.out _).mono ?_
 rintro e w1 ⟨rfl, rfl⟩
 go_wp2
 go_ret
 exact ⟨rfl, Below.refl _ _⟩
set_option maxHeartbeats 1000000 in
theorem clo39 (s t b : Nat) (hs : s < 4294967296) (ht : t < 4294967296) (hb : b < 18446744073709551616) (ps pt : Addr) (w : World) (cs : w.cell? ps = some (.int .u32 s)) (ct : w.cell? pt = some (.int .u32 t)) :
  Calls Tryz.prog 126 #[.int .u64 b, .pointer (some ps), .pointer (some pt)] w fun e w' => e = .returned (.int .u64 ((workN 1 s t b : Nat) : Int)) /\ Below w.heap.size w w' := by
 rw [show workN 1 s t b = prN false s t from rfl]
 have K : Hid (∀ w, Calls Tryz.prog 124 #[.int .u32 s, .int .u32 t, .func (.func 127) #[] #[]] w fun e w' => e = .returned (.int .u64 ((prN false s t : Nat) : Int)) /\ w' = w) := product37 false s t hs ht
 have lp := prN_lt false s t
 generalize prN false s t = p at *
 clear hs ht hb lp
 go_enter Tryz.func126, Tryz.ntmps126
 go_wp2_with fail
 refine (K.out _).mono ?_
 rintro e w1 ⟨rfl, rfl⟩
 go_wp2
 go_ret
 exact ⟨rfl, Below.refl _ _⟩
set_option maxHeartbeats 1000000 in
theorem clo41 (s t b : Nat) (hs : s < 4294967296) (ht : t < 4294967296) (hb : b < 18446744073709551616) (ps pt : Addr) (w : World) (cs : w.cell? ps = some (.int .u32 s)) (ct : w.cell? pt = some (.int .u32 t)) :
  Calls Tryz.prog 128 #[.int .u64 b, .pointer (some ps), .pointer (some pt)] w fun e w' => e = .returned (.int .u64 ((workN 2 s t b : Nat) : Int)) /\ Below w.heap.size w w' := by
 rw [show workN 2 s t b = outW ((b : Int) + (prN true s t : Int)) from rfl]
 have K : Hid (∀ w, Calls Tryz.prog 124 #[.int .u32 s, .int .u32 t, .func (.func 125) #[] #[]] w fun e w' => e = .returned (.int .u64 ((prN true s t : Nat) : Int)) /\ w' = w) := product37 true s t hs ht
 have lp := prN_lt true s t
 generalize prN true s t = p at *
 have hk : Hid (IntKind.u64.wrap ((b : Int) + (p : Int)) = ((outW ((b : Int) + (p : Int)) : Nat) : Int)) := by show _ = _; rw [outW_is, IntKind.wrap_u64]
 generalize outW ((b : Int) + (p : Int)) = z at *
 clear hs ht hb lp
 go_enter Tryz.func128, Tryz.ntmps128
 go_wp2_with fail
 refine (K.out _).mono ?_
 rintro e w1 ⟨rfl, rfl⟩
 go_wp2
 go_ret
 exact ⟨ret_int hk.out, Below.refl _ _⟩
set_option maxHeartbeats 1000000 in
theorem clo42 (s t b : Nat) (hs : s < 4294967296) (ht : t < 4294967296) (hb : b < 18446744073709551616) (ps pt : Addr) (w : World) (cs : w.cell? ps = some (.int .u32 s)) (ct : w.cell? pt = some (.int .u32 t)) :
  Calls Tryz.prog 129 #[.int .u64 b, .pointer (some ps), .pointer (some pt)] w fun e w' => e = .returned (.int .u64 ((workN 3 s t b : Nat) : Int)) /\ Below w.heap.size w w' := by
 rw [show workN 3 s t b = outW ((b : Int) + (prN false s t : Int)) from rfl]
 have K : Hid (∀ w, Calls Tryz.prog 124 #[.int .u32 s, .int .u32 t, .func (.func 127) #[] #[]] w fun e w' => e = .returned (.int .u64 ((prN false s t : Nat) : Int)) /\ w' = w) := product37 false s t hs ht
 have lp := prN_lt false s t
 generalize prN false s t = p at *
 have hk : Hid (IntKind.u64.wrap ((b : Int) + (p : Int)) = ((outW ((b : Int) + (p : Int)) : Nat) : Int)) := by show _ = _; rw [outW_is, IntKind.wrap_u64]
 generalize outW ((b : Int) + (p : Int)) = z at *
 clear hs ht hb lp
 go_enter Tryz.func129, Tryz.ntmps129
 go_wp2_with fail
 refine (K.out _).mono ?_
 rintro e w1 ⟨rfl, rfl⟩
 go_wp2
 go_ret
 exact ⟨ret_int hk.out, Below.refl _ _⟩
set_option maxHeartbeats 1000000 in
theorem clo43 (s t b : Nat) (hs : s < 4294967296) (ht : t < 4294967296) (hb : b < 18446744073709551616) (ps pt : Addr) (w : World) (cs : w.cell? ps = some (.int .u32 s)) (ct : w.cell? pt = some (.int .u32 t)) :
  Calls Tryz.prog 130 #[.int .u64 b, .pointer (some ps), .pointer (some pt)] w fun e w' => e = .returned (.int .u64 ((workN 4 s t b : Nat) : Int)) /\ Below w.heap.size w w' := by
 rw [show workN 4 s t b = outW ((b : Int) - (prN true s t : Int)) from rfl]
 have K : Hid (∀ w, Calls Tryz.prog 124 #[.int .u32 s, .int .u32 t, .func (.func 125) #[] #[]] w fun e w' => e = .returned (.int .u64 ((prN true s t : Nat) : Int)) /\ w' = w) := product37 true s t hs ht
 have lp := prN_lt true s t
 generalize prN true s t = p at *
 have hk : Hid (IntKind.u64.wrap ((b : Int) - (p : Int)) = ((outW ((b : Int) - (p : Int)) : Nat) : Int)) := by show _ = _; rw [outW_is, IntKind.wrap_u64]
 generalize outW ((b : Int) - (p : Int)) = z at *
 clear hs ht hb lp
 go_enter Tryz.func130, Tryz.ntmps130
 go_wp2_with fail
 refine (K.out _).mono ?_
 rintro e w1 ⟨rfl, rfl⟩
 go_wp2
 go_ret
 exact ⟨ret_int hk.out, Below.refl _ _⟩
set_option maxHeartbeats 1000000 in
theorem clo44 (s t b : Nat) (hs : s < 4294967296) (ht : t < 4294967296) (hb : b < 18446744073709551616) (ps pt : Addr) (w : World) (cs : w.cell? ps = some (.int .u32 s)) (ct : w.cell? pt = some (.int .u32 t)) :
  Calls Tryz.prog 131 #[.int .u64 b, .pointer (some ps), .pointer (some pt)] w fun e w' => e = .returned (.int .u64 ((workN 5 s t b : Nat) : Int)) /\ Below w.heap.size w w' := by
 rw [show workN 5 s t b = outW ((b : Int) - (prN false s t : Int)) from rfl]
 have K : Hid (∀ w, Calls Tryz.prog 124 #[.int .u32 s, .int .u32 t, .func (.func 127) #[] #[]] w fun e w' => e = .returned (.int .u64 ((prN false s t : Nat) : Int)) /\ w' = w) := product37 false s t hs ht
 have lp := prN_lt false s t
 generalize prN false s t = p at *
 have hk : Hid (IntKind.u64.wrap ((b : Int) - (p : Int)) = ((outW ((b : Int) - (p : Int)) : Nat) : Int)) := by show _ = _; rw [outW_is, IntKind.wrap_u64]
 generalize outW ((b : Int) - (p : Int)) = z at *
 clear hs ht hb lp
 go_enter Tryz.func131, Tryz.ntmps131
 go_wp2_with fail
 refine (K.out _).mono ?_
 rintro e w1 ⟨rfl, rfl⟩
 go_wp2
 go_ret
 exact ⟨ret_int hk.out, Below.refl _ _⟩
set_option maxHeartbeats 1000000 in
theorem clo45 (s t b : Nat) (hs : s < 4294967296) (ht : t < 4294967296) (hb : b < 18446744073709551616) (ps pt : Addr) (w : World) (cs : w.cell? ps = some (.int .u32 s)) (ct : w.cell? pt = some (.int .u32 t)) :
  Calls Tryz.prog 132 #[.int .u64 b, .pointer (some ps), .pointer (some pt)] w fun e w' => e = .returned (.int .u64 ((workN 6 s t b : Nat) : Int)) /\ Below w.heap.size w w' := by
 rw [show workN 6 s t b = dvN true s t from rfl]
 have K : Hid (∀ w, Calls Tryz.prog 133 #[.int .u32 s, .int .u32 t, .func (.func 125) #[] #[]] w fun e w' => e = .returned (.int .u64 ((dvN true s t : Nat) : Int)) /\ Below w.heap.size w w') := divided46 true s t hs ht
 generalize dvN true s t = p at *
 clear hs ht
 go_enter Tryz.func132, Tryz.ntmps132
 go_wp2_with fail
 refine (K.out _).mono ?_
 rintro e w1 ⟨rfl, hb1⟩
 go_wp2
 go_ret
 exact ⟨rfl, hb1⟩
set_option maxHeartbeats 1000000 in
theorem clo47 (s t b : Nat) (hs : s < 4294967296) (ht : t < 4294967296) (hb : b < 18446744073709551616) (ps pt : Addr) (w : World) (cs : w.cell? ps = some (.int .u32 s)) (ct : w.cell? pt = some (.int .u32 t)) :
  Calls Tryz.prog 134 #[.int .u64 b, .pointer (some ps), .pointer (some pt)] w fun e w' => e = .returned (.int .u64 ((workN 7 s t b : Nat) : Int)) /\ Below w.heap.size w w' := by
 rw [show workN 7 s t b = dvN false s t from rfl]
 have K : Hid (∀ w, Calls Tryz.prog 133 #[.int .u32 s, .int .u32 t, .func (.func 127) #[] #[]] w fun e w' => e = .returned (.int .u64 ((dvN false s t : Nat) : Int)) /\ Below w.heap.size w w') := divided46 false s t hs ht
 generalize dvN false s t = p at *
 clear hs ht
 go_enter Tryz.func134, Tryz.ntmps134
 go_wp2_with fail
 refine (K.out _).mono ?_
 rintro e w1 ⟨rfl, hb1⟩
 go_wp2
 go_ret
 exact ⟨rfl, hb1⟩
set_option maxHeartbeats 1000000 in
theorem clo48 (s t b : Nat) (hs : s < 4294967296) (ht : t < 4294967296) (hb : b < 18446744073709551616) (ps pt : Addr) (w : World) (cs : w.cell? ps = some (.int .u32 s)) :
  Calls Tryz.prog 135 #[.int .u64 b, .pointer (some ps)] w fun e w' => e = .returned (.int .u64 ((workN 8 s t b : Nat) : Int)) /\ Below w.heap.size w w' := by
 rw [show workN 8 s t b = s * 4294967296 + b % 4294967296 from rfl]
 have K : Hid (∀ w, Calls Tryz.prog 137 #[.int .u64 b] w fun e w' => e = .returned (.int .u32 ((b % 4294967296 : Nat) : Int)) /\ w' = w) := low50 b hb
 have K2 : Hid (∀ w, Calls Tryz.prog 136 #[.int .u32 s, .int .u32 ((b % 4294967296 : Nat) : Int)] w fun e w' => e = .returned (.int .u64 ((s * 4294967296 + b % 4294967296 : Nat) : Int)) /\ w' = w) := joined49 s _ hs (by omega)
 generalize s * 4294967296 + b % 4294967296 = z at *
 generalize b % 4294967296 = x at *
 clear hs ht hb
 go_enter Tryz.func135, Tryz.ntmps135
 go_wp2
 go_quiet (first | (go_at_call 137; exact Calls.quiet_of_same (K.out _)) | (go_at_call 136; exact Calls.quiet_of_same (K2.out _)))
 go_wp2
 go_ret
 exact ⟨rfl, below_drewN (Below.refl _ _) _⟩
set_option maxHeartbeats 1000000 in
theorem clo51 (s t b : Nat) (hs : s < 4294967296) (ht : t < 4294967296) (hb : b < 18446744073709551616) (ps pt : Addr) (w : World) (cs : w.cell? ps = some (.int .u32 s)) :
  Calls Tryz.prog 138 #[.int .u64 b, .pointer (some ps)] w fun e w' => e = .returned (.int .u64 ((workN 9 s t b : Nat) : Int)) /\ Below w.heap.size w w' := by
 rw [show workN 9 s t b = b / 4294967296 * 4294967296 + s from rfl]
 have K : Hid (∀ w, Calls Tryz.prog 139 #[.int .u64 b] w fun e w' => e = .returned (.int .u32 ((b / 4294967296 : Nat) : Int)) /\ w' = w) := high52 b hb
 have K2 : Hid (∀ w, Calls Tryz.prog 136 #[.int .u32 ((b / 4294967296 : Nat) : Int), .int .u32 s] w fun e w' => e = .returned (.int .u64 ((b / 4294967296 * 4294967296 + s : Nat) : Int)) /\ w' = w) := joined49 _ s (by omega) hs
 generalize b / 4294967296 * 4294967296 + s = z at *
 generalize b / 4294967296 = x at *
 clear hs ht hb
 go_enter Tryz.func138, Tryz.ntmps138
 go_wp2
 go_quiet (first | (go_at_call 139; exact Calls.quiet_of_same (K.out _)) | (go_at_call 136; exact Calls.quiet_of_same (K2.out _)))
 go_wp2
 go_ret
 exact ⟨rfl, below_drewN (Below.refl _ _) _⟩
end Go.Proofs.YtimfipkbddpdmaaGreatDoor.Wd
