/- What is proved here: the four functions by which pages and cells are looked for. -/
import Derived.Test.YtolmcbnammhjjaaSl
import Derived.Deep.RegionHeld3
namespace Go.Proofs.Ytolmcbnammhjjaa
open Go.RowKit
set_option linter.unusedVariables false
set_option maxHeartbeats 1000000 in
theorem clo56 (pf pl pt : Addr) (b o n cap i x first : Nat) (r : Int) (w : World) (hi : i < n) (hn : n ≤ 9223372036854775807)
    (hf : w.cell? pf = some (.func (.func 28) #[] #[])) (hl : w.cell? pl = some (.slice (some ⟨b, o, none⟩) n cap)) (ht : w.cell? pt = some (.int .u64 (first : Int)))
    (h0 : w.cell? ⟨b, o + i * 2, none⟩ = some (.int .u64 (x : Int))) (h1 : w.cell? ⟨b, o + i * 2 + 1, none⟩ = some (.int .i64 r)) :
    Calls Try.prog 56 #[.int .i64 (i : Int), .pointer (some pf), .pointer (some pl), .pointer (some pt)] w fun e w' => e = .returned (.bool (decide (first ≤ x))) ∧ Below w.heap.size w w' := by
  go_enter Try.func56, Try.ntmps56
  go_wp2
  go_region_held3 (fun w' => w'.cell? pf = some (.func (.func 28) #[] #[]) ∧ w'.cell? pl = some (.slice (some ⟨b, o, none⟩) n cap) ∧ w'.cell? pt = some (.int .u64 (first : Int)) ∧ w'.cell? ⟨b, o + i * 2, none⟩ = some (.int .u64 (x : Int)) ∧ w'.cell? ⟨b, o + i * 2 + 1, none⟩ = some (.int .i64 r)) (first | go_keep | (refine ⟨?_, ?_, ?_, ?_, ?_⟩ <;> exact keep_cell (by assumption) (by simp [*]))) ((go_at_call 28; refine (pageOf_any _ _ _).mono ?_; rintro e w' ⟨rfl, bel⟩))
  all_goals (go_wp2; go_ret)
  refine ⟨by simp, below_tr (Below.refl _ _).drew (by assumption)⟩
set_option maxHeartbeats 1000000 in
theorem clo57 (pf pl pt : Addr) (b o n cap i x first : Nat) (r : Int) (w : World) (hi : i < n) (hn : n ≤ 9223372036854775807)
    (hf : w.cell? pf = some (.func (.func 28) #[] #[])) (hl : w.cell? pl = some (.slice (some ⟨b, o, none⟩) n cap)) (ht : w.cell? pt = some (.int .u64 (first : Int)))
    (h0 : w.cell? ⟨b, o + i * 2, none⟩ = some (.int .u64 (x : Int))) (h1 : w.cell? ⟨b, o + i * 2 + 1, none⟩ = some (.int .i64 r)) :
    Calls Try.prog 57 #[.int .i64 (i : Int), .pointer (some pf), .pointer (some pl), .pointer (some pt)] w fun e w' => e = .returned (.bool (decide (first < x))) ∧ Below w.heap.size w w' := by
  go_enter Try.func57, Try.ntmps57
  go_wp2
  go_region_held3 (fun w' => w'.cell? pf = some (.func (.func 28) #[] #[]) ∧ w'.cell? pl = some (.slice (some ⟨b, o, none⟩) n cap) ∧ w'.cell? pt = some (.int .u64 (first : Int)) ∧ w'.cell? ⟨b, o + i * 2, none⟩ = some (.int .u64 (x : Int)) ∧ w'.cell? ⟨b, o + i * 2 + 1, none⟩ = some (.int .i64 r)) (first | go_keep | (refine ⟨?_, ?_, ?_, ?_, ?_⟩ <;> exact keep_cell (by assumption) (by simp [*]))) ((go_at_call 28; refine (pageOf_any _ _ _).mono ?_; rintro e w' ⟨rfl, bel⟩))
  all_goals (go_wp2; go_ret)
  refine ⟨by simp, below_tr (Below.refl _ _).drew (by assumption)⟩
set_option maxHeartbeats 1000000 in
theorem clo62 (pf pl pt : Addr) (b o n cap i x first : Nat) (r : Int) (w : World) (hi : i < n) (hn : n ≤ 9223372036854775807)
    (hf : w.cell? pf = some (.func (.func 30) #[] #[])) (hl : w.cell? pl = some (.slice (some ⟨b, o, none⟩) n cap)) (ht : w.cell? pt = some (.int .u64 (first : Int)))
    (h0 : w.cell? ⟨b, o + i * 2, none⟩ = some (.int .u64 (x : Int))) (h1 : w.cell? ⟨b, o + i * 2 + 1, none⟩ = some (.int .u64 r)) :
    Calls Try.prog 62 #[.int .i64 (i : Int), .pointer (some pf), .pointer (some pl), .pointer (some pt)] w fun e w' => e = .returned (.bool (decide (first ≤ x))) ∧ Below w.heap.size w w' := by
  go_enter Try.func62, Try.ntmps62
  go_wp2
  go_region_held3 (fun w' => w'.cell? pf = some (.func (.func 30) #[] #[]) ∧ w'.cell? pl = some (.slice (some ⟨b, o, none⟩) n cap) ∧ w'.cell? pt = some (.int .u64 (first : Int)) ∧ w'.cell? ⟨b, o + i * 2, none⟩ = some (.int .u64 (x : Int)) ∧ w'.cell? ⟨b, o + i * 2 + 1, none⟩ = some (.int .u64 r)) (first | go_keep | (refine ⟨?_, ?_, ?_, ?_, ?_⟩ <;> exact keep_cell (by assumption) (by simp [*]))) ((go_at_call 30; refine (atOf_any _ _ _).mono ?_; rintro e w' ⟨rfl, bel⟩))
  all_goals (go_wp2; go_ret)
  refine ⟨by simp, below_tr (Below.refl _ _).drew (by assumption)⟩
set_option maxHeartbeats 1000000 in
theorem clo63 (pf pl pt : Addr) (b o n cap i x first : Nat) (r : Int) (w : World) (hi : i < n) (hn : n ≤ 9223372036854775807)
    (hf : w.cell? pf = some (.func (.func 30) #[] #[])) (hl : w.cell? pl = some (.slice (some ⟨b, o, none⟩) n cap)) (ht : w.cell? pt = some (.int .u64 (first : Int)))
    (h0 : w.cell? ⟨b, o + i * 2, none⟩ = some (.int .u64 (x : Int))) (h1 : w.cell? ⟨b, o + i * 2 + 1, none⟩ = some (.int .u64 r)) :
    Calls Try.prog 63 #[.int .i64 (i : Int), .pointer (some pf), .pointer (some pl), .pointer (some pt)] w fun e w' => e = .returned (.bool (decide (first < x))) ∧ Below w.heap.size w w' := by
  go_enter Try.func63, Try.ntmps63
  go_wp2
  go_region_held3 (fun w' => w'.cell? pf = some (.func (.func 30) #[] #[]) ∧ w'.cell? pl = some (.slice (some ⟨b, o, none⟩) n cap) ∧ w'.cell? pt = some (.int .u64 (first : Int)) ∧ w'.cell? ⟨b, o + i * 2, none⟩ = some (.int .u64 (x : Int)) ∧ w'.cell? ⟨b, o + i * 2 + 1, none⟩ = some (.int .u64 r)) (first | go_keep | (refine ⟨?_, ?_, ?_, ?_, ?_⟩ <;> exact keep_cell (by assumption) (by simp [*]))) ((go_at_call 30; refine (atOf_any _ _ _).mono ?_; rintro e w' ⟨rfl, bel⟩))
  all_goals (go_wp2; go_ret)
  refine ⟨by simp, below_tr (Below.refl _ _).drew (by assumption)⟩
end Go.Proofs.Ytolmcbnammhjjaa
