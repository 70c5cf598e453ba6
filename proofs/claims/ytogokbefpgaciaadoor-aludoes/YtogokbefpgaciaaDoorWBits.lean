/- What is proved here: swap.Sext, swap.Rot and swap.Up, and the document's own, tell for every number the same plain number. -/
import Derived.WalkKit
import Derived.WalkSpells
import Derived.WalkLawsBesides
import Derived.Deep.QuietTactic
import Derived.BigQuiet
import Derived.RegionTactic
import Derived.Test.YtogokbefpgaciaaDoorProg
import Derived.Test.YtogokbefpgaciaaDoorWPlain
namespace Go.Proofs.YtogokbefpgaciaaDoor.Sw
open Go.RowKit

theorem ret_int {k : IntKind} {a b : Int} (h : a = b) : Ending.returned (.int k a) = .returned (.int k b) := by rw [h]

set_option maxHeartbeats 400000 in
theorem sext_in (v : Nat) (b : Nat) (h1 : 1 ≤ b) (h2 : b ≤ 32) (w : World) :
    Calls Tryd.prog 19 #[.int .u32 (v : Int), .int .i64 (b : Int)] w fun e w' => e = .returned (.int .u32 ((sextS v b : Nat) : Int)) ∧ w' = w := by
  have hk : Hid (wrap32 ((v : Int) * 2 ^ (32 - b) % 4294967296) / 2 ^ (32 - b) % 4294967296 = ((sextS v b : Nat) : Int)) := sext_key v b h1 h2
  go_enter Tryd.func19, Tryd.ntmps19
  go_wp2
  go_ret
  exact ⟨ret_int hk.out, rfl⟩
set_option maxHeartbeats 400000 in
theorem sext_out (v : Int) (b : Int) (h : b < 1 ∨ 32 < b) (w : World) :
    Calls Tryd.prog 19 #[.int .u32 v, .int .i64 b] w fun e w' => e = .returned (.int .u32 v) ∧ w' = w := by
  rcases h with h | h
  all_goals
    go_enter Tryd.func19, Tryd.ntmps19
    go_wp2
    go_ret
    exact ⟨rfl, rfl⟩
theorem sext_any (v : Nat) (b : Int) (w : World) :
    Calls Tryd.prog 19 #[.int .u32 (v : Int), .int .i64 b] w fun e w' => e = .returned (.int .u32 ((sextI v b : Nat) : Int)) ∧ w' = w := by
  by_cases h : 1 ≤ b ∧ b ≤ 32
  · obtain ⟨k, rfl⟩ := Int.eq_ofNat_of_zero_le (show 0 ≤ b by omega)
    rw [sextI, if_pos h, Int.toNat_natCast]
    exact sext_in v k (by omega) (by omega) w
  · rw [sextI, if_neg h]
    exact sext_out v b (by omega) w

set_option maxHeartbeats 400000 in
theorem rsext_in (v : Nat) (hv : v < 4294967296) (b : Nat) (h1 : 1 ≤ b) (h2 : b ≤ 31) (w : World) :
    Calls Tryd.prog 21 #[.int .u32 (v : Int), .int .i64 (b : Int)] w fun e w' => e = .returned (.int .u32 ((sextS v b : Nat) : Int)) ∧ w' = w := by
  have ha := and_mask v b hv h2
  have ho : Hid (bits .or .u32 ((v % 2 ^ b : Nat) : Int) (4294967295 - (2 ^ b - 1) % 4294967296) = ((v % 2 ^ b + 4294967296 - 2 ^ b : Nat) : Int)) := or_high v b h2
  have ht := test_high v b h1
  by_cases hc : 2 ^ (b - 1) ≤ v % 2 ^ b
  · have hd : Hid (((sextS v b : Nat) : Int) = ((v % 2 ^ b + 4294967296 - 2 ^ b : Nat) : Int)) := by unfold sextS; rw [if_pos hc]; rfl
    have ht' : (bits .and .u32 (v : Int) ((2 ^ b - 1) % 4294967296) / 2 ^ (b - 1) == 1) = true := by rw [ha, ht, decide_eq_true_eq]; exact hc
    have ha' : Hid (bits .and .u32 (v : Int) ((2 ^ b - 1) % 4294967296) = ((v % 2 ^ b : Nat) : Int)) := ha
    clear ha ht hc
    go_enter Tryd.func21, Tryd.ntmps21
    go_wp2
    go_ret
    refine ⟨ret_int ?_, rfl⟩
    rw [hd.out, ← ho.out, ← ha'.out]
  · have hd : Hid (((sextS v b : Nat) : Int) = ((v % 2 ^ b : Nat) : Int)) := by unfold sextS; rw [if_neg hc]; rfl
    have ht' : (bits .and .u32 (v : Int) ((2 ^ b - 1) % 4294967296) / 2 ^ (b - 1) == 1) = false := by rw [ha, ht, decide_eq_false_iff_not]; exact hc
    have ha' : Hid (bits .and .u32 (v : Int) ((2 ^ b - 1) % 4294967296) = ((v % 2 ^ b : Nat) : Int)) := ha
    clear ha ht hc
    go_enter Tryd.func21, Tryd.ntmps21
    go_wp2
    go_ret
    refine ⟨ret_int ?_, rfl⟩
    rw [hd.out, ← ha'.out]
set_option maxHeartbeats 400000 in
theorem rsext_out (v : Int) (b : Int) (h : b < 1 ∨ 31 < b) (w : World) :
    Calls Tryd.prog 21 #[.int .u32 v, .int .i64 b] w fun e w' => e = .returned (.int .u32 v) ∧ w' = w := by
  rcases h with h | h
  all_goals
    go_enter Tryd.func21, Tryd.ntmps21
    go_wp2
    go_ret
    exact ⟨rfl, rfl⟩
theorem sext_32 (v : Nat) (hv : v < 4294967296) : sextS v 32 = v := by
  have e : v % 2 ^ 32 = v := Nat.mod_eq_of_lt hv
  unfold sextS
  rw [e]
  split <;> omega
theorem rsext_any (v : Nat) (hv : v < 4294967296) (b : Int) (w : World) :
    Calls Tryd.prog 21 #[.int .u32 (v : Int), .int .i64 b] w fun e w' => e = .returned (.int .u32 ((sextI v b : Nat) : Int)) ∧ w' = w := by
  by_cases h : 1 ≤ b ∧ b ≤ 31
  · obtain ⟨k, rfl⟩ := Int.eq_ofNat_of_zero_le (show 0 ≤ b by omega)
    rw [sextI, if_pos (by omega), Int.toNat_natCast]
    exact rsext_in v hv k (by omega) (by omega) w
  · have e : sextI v b = v := by
      unfold sextI
      split
      · have e2 : b = 32 := by omega
        subst e2
        exact sext_32 v hv
      · rfl
    rw [e]
    exact rsext_out v b (by omega) w

set_option maxHeartbeats 400000 in
theorem rot_in (v : Nat) (hv : v < 4294967296) (n : Int) (d : Nat) (hd : d < 32) (hnd : n % 32 = (d : Int)) (w : World) :
    Calls Tryd.prog 68 #[.int .u32 (v : Int), .int .i64 n] w fun e w' => e = .returned (.int .u32 ((rotS v d : Nat) : Int)) ∧ Below w.heap.size w w' := by
  have ha : bits .and .i64 n 31 = (d : Int) := by rw [and_31, hnd]
  have hk : Hid (bits .or .u32 ((v : Int) / 2 ^ d) ((v : Int) * 2 ^ (32 - d) % 4294967296) = ((rotS v d : Nat) : Int)) := rot_key v d hv (by omega)
  clear hnd
  go_enter Tryd.func68, Tryd.ntmps68
  go_wp2
  go_quiet (fail)
  go_wp2
  go_ret
  exact ⟨ret_int hk.out, below_drewN (Below.refl _ _) _⟩
def rotI (v : Nat) (n : Int) : Nat := rotS v (n % 32).toNat
theorem rot_any (v : Nat) (hv : v < 4294967296) (n : Int) (w : World) :
    Calls Tryd.prog 68 #[.int .u32 (v : Int), .int .i64 n] w fun e w' => e = .returned (.int .u32 ((rotI v n : Nat) : Int)) ∧ Below w.heap.size w w' :=
  rot_in v hv n (n % 32).toNat (by omega) (by omega) w

set_option maxHeartbeats 400000 in
theorem rrot_in (v : Nat) (hv : v < 4294967296) (n : Int) (d : Nat) (hd : d < 32) (hnd : n % 32 = (d : Int)) (w : World) :
    Calls Tryd.prog 39 #[.int .u32 (v : Int), .int .i64 n] w fun e w' => e = .returned (.int .u32 ((rotS v d : Nat) : Int)) ∧ w' = w := by
  have ha : (IntKind.u64.wrap n).tmod 32 = (d : Int) := by
    rw [IntKind.wrap_u64, tmod_of_emod]; omega
  have hk : Hid (bits .or .u32 ((v : Int) / 2 ^ d) ((v : Int) * 2 ^ (32 - d) % 4294967296) = ((rotS v d : Nat) : Int)) := rot_key v d hv (by omega)
  clear hnd
  by_cases h0 : d = 0
  · subst h0
    have hz : Hid (((rotS v 0 : Nat) : Int) = (v : Int)) := by rw [rot_zero]; rfl
    go_enter Tryd.func39, Tryd.ntmps39
    go_wp2
    go_ret
    exact ⟨ret_int hz.out.symm, rfl⟩
  · have hz : ((d : Int) == 0) = false := by simp; exact h0
    go_enter Tryd.func39, Tryd.ntmps39
    go_wp2
    go_ret
    exact ⟨ret_int hk.out, rfl⟩
theorem rrot_any (v : Nat) (hv : v < 4294967296) (n : Int) (w : World) :
    Calls Tryd.prog 39 #[.int .u32 (v : Int), .int .i64 n] w fun e w' => e = .returned (.int .u32 ((rotI v n : Nat) : Int)) ∧ w' = w :=
  rrot_in v hv n (n % 32).toNat (by omega) (by omega) w

theorem ret_two {a b : Int} (h : a = b) : Ending.returned (.tuple #[.int .u32 a, .bool true]) = .returned (.tuple #[.int .u32 b, .bool true]) := by rw [h]
end Go.Proofs.YtogokbefpgaciaaDoor.Sw
