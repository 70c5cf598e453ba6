/- What is proved here: swap.Sext, swap.Rot and swap.Up, and the document's own, tell for every number the same plain number. -/
import Derived.WalkKit
import Derived.WalkSpells
import Derived.WalkLawsBesides
import Derived.Deep.QuietTactic
import Derived.BigQuiet
import Derived.RegionTactic
import Derived.Test.YtajlhnojhpomdaaProg
import Derived.Test.YtajlhnojhpomdaaPlain
namespace Go.Proofs.Ytajlhnojhpomdaa
open Go.RowKit

theorem ret_int {k : IntKind} {a b : Int} (h : a = b) : Ending.returned (.int k a) = .returned (.int k b) := by rw [h]

set_option maxHeartbeats 400000 in
theorem sext_in (v : Nat) (b : Nat) (h1 : 1 ≤ b) (h2 : b ≤ 32) (w : World) :
    Calls Try.prog 19 #[.int .u32 (v : Int), .int .i64 (b : Int)] w fun e w' => e = .returned (.int .u32 ((sextS v b : Nat) : Int)) ∧ w' = w := by
  have hk : Hid (wrap32 ((v : Int) * 2 ^ (32 - b) % 4294967296) / 2 ^ (32 - b) % 4294967296 = ((sextS v b : Nat) : Int)) := sext_key v b h1 h2
  go_enter Try.func19, Try.ntmps19
  go_wp2
  go_ret
  exact ⟨ret_int hk.out, rfl⟩
set_option maxHeartbeats 400000 in
theorem sext_out (v : Int) (b : Int) (h : b < 1 ∨ 32 < b) (w : World) :
    Calls Try.prog 19 #[.int .u32 v, .int .i64 b] w fun e w' => e = .returned (.int .u32 v) ∧ w' = w := by
  rcases h with h | h
  all_goals
    go_enter Try.func19, Try.ntmps19
    go_wp2
    go_ret
    exact ⟨rfl, rfl⟩
theorem sext_any (v : Nat) (b : Int) (w : World) :
    Calls Try.prog 19 #[.int .u32 (v : Int), .int .i64 b] w fun e w' => e = .returned (.int .u32 ((sextI v b : Nat) : Int)) ∧ w' = w := by
  by_cases h : 1 ≤ b ∧ b ≤ 32
  · obtain ⟨k, rfl⟩ := Int.eq_ofNat_of_zero_le (show 0 ≤ b by omega)
    rw [sextI, if_pos h, Int.toNat_natCast]
    exact sext_in v k (by omega) (by omega) w
  · rw [sextI, if_neg h]
    exact sext_out v b (by omega) w

set_option maxHeartbeats 400000 in
theorem rsext_in (v : Nat) (hv : v < 4294967296) (b : Nat) (h1 : 1 ≤ b) (h2 : b ≤ 31) (w : World) :
    Calls Try.prog 20 #[.int .u32 (v : Int), .int .i64 (b : Int)] w fun e w' => e = .returned (.int .u32 ((sextS v b : Nat) : Int)) ∧ w' = w := by
  have ha := and_mask v b hv h2
  have ho : Hid (bits .or .u32 ((v % 2 ^ b : Nat) : Int) (4294967295 - (2 ^ b - 1) % 4294967296) = ((v % 2 ^ b + 4294967296 - 2 ^ b : Nat) : Int)) := or_high v b h2
  have ht := test_high v b h1
  by_cases hc : 2 ^ (b - 1) ≤ v % 2 ^ b
  · have hd : Hid (((sextS v b : Nat) : Int) = ((v % 2 ^ b + 4294967296 - 2 ^ b : Nat) : Int)) := by unfold sextS; rw [if_pos hc]; rfl
    have ht' : (bits .and .u32 (v : Int) ((2 ^ b - 1) % 4294967296) / 2 ^ (b - 1) == 1) = true := by rw [ha, ht, decide_eq_true_eq]; exact hc
    have ha' : Hid (bits .and .u32 (v : Int) ((2 ^ b - 1) % 4294967296) = ((v % 2 ^ b : Nat) : Int)) := ha
    clear ha ht hc
    go_enter Try.func20, Try.ntmps20
    go_wp2
    go_ret
    refine ⟨ret_int ?_, rfl⟩
    rw [hd.out, ← ho.out, ← ha'.out]
  · have hd : Hid (((sextS v b : Nat) : Int) = ((v % 2 ^ b : Nat) : Int)) := by unfold sextS; rw [if_neg hc]; rfl
    have ht' : (bits .and .u32 (v : Int) ((2 ^ b - 1) % 4294967296) / 2 ^ (b - 1) == 1) = false := by rw [ha, ht, decide_eq_false_iff_not]; exact hc
    have ha' : Hid (bits .and .u32 (v : Int) ((2 ^ b - 1) % 4294967296) = ((v % 2 ^ b : Nat) : Int)) := ha
    clear ha ht hc
    go_enter Try.func20, Try.ntmps20
    go_wp2
    go_ret
    refine ⟨ret_int ?_, rfl⟩
    rw [hd.out, ← ha'.out]
set_option maxHeartbeats 400000 in
theorem rsext_out (v : Int) (b : Int) (h : b < 1 ∨ 31 < b) (w : World) :
    Calls Try.prog 20 #[.int .u32 v, .int .i64 b] w fun e w' => e = .returned (.int .u32 v) ∧ w' = w := by
  rcases h with h | h
  all_goals
    go_enter Try.func20, Try.ntmps20
    go_wp2
    go_ret
    exact ⟨rfl, rfl⟩
theorem sext_32 (v : Nat) (hv : v < 4294967296) : sextS v 32 = v := by
  have e : v % 2 ^ 32 = v := Nat.mod_eq_of_lt hv
  unfold sextS
  rw [e]
  split <;> omega
theorem rsext_any (v : Nat) (hv : v < 4294967296) (b : Int) (w : World) :
    Calls Try.prog 20 #[.int .u32 (v : Int), .int .i64 b] w fun e w' => e = .returned (.int .u32 ((sextI v b : Nat) : Int)) ∧ w' = w := by
  by_cases h : 1 ≤ b ∧ b ≤ 31
  · obtain ⟨k, rfl⟩ := Int.eq_ofNat_of_zero_le (show 0 ≤ b by omega)
    rw [sextI, if_pos (by omega), Int.toNat_natCast]
    exact rsext_in v hv k (by omega) (by omega) w
  · have e : sextI v b = v := by
      unfold sextI
      split
      · have e2 : b = 32 := by omega
        subst e2
        exact sext_32 v hv
      · rfl
    rw [e]
    exact rsext_out v b (by omega) w

set_option maxHeartbeats 400000 in
theorem rot_in (v : Nat) (hv : v < 4294967296) (n : Int) (d : Nat) (hd : d < 32) (hnd : n % 32 = (d : Int)) (w : World) :
    Calls Try.prog 21 #[.int .u32 (v : Int), .int .i64 n] w fun e w' => e = .returned (.int .u32 ((rotS v d : Nat) : Int)) ∧ Below w.heap.size w w' := by
  have ha : bits .and .i64 n 31 = (d : Int) := by rw [and_31, hnd]
  have hk : Hid (bits .or .u32 ((v : Int) / 2 ^ d) ((v : Int) * 2 ^ (32 - d) % 4294967296) = ((rotS v d : Nat) : Int)) := rot_key v d hv (by omega)
  clear hnd
  go_enter Try.func21, Try.ntmps21
  go_wp2
  go_quiet (fail)
  go_wp2
  go_ret
  exact ⟨ret_int hk.out, below_drewN (Below.refl _ _) _⟩
def rotI (v : Nat) (n : Int) : Nat := rotS v (n % 32).toNat
theorem rot_any (v : Nat) (hv : v < 4294967296) (n : Int) (w : World) :
    Calls Try.prog 21 #[.int .u32 (v : Int), .int .i64 n] w fun e w' => e = .returned (.int .u32 ((rotI v n : Nat) : Int)) ∧ Below w.heap.size w w' :=
  rot_in v hv n (n % 32).toNat (by omega) (by omega) w

set_option maxHeartbeats 400000 in
theorem rrot_in (v : Nat) (hv : v < 4294967296) (n : Int) (d : Nat) (hd : d < 32) (hnd : n % 32 = (d : Int)) (w : World) :
    Calls Try.prog 22 #[.int .u32 (v : Int), .int .i64 n] w fun e w' => e = .returned (.int .u32 ((rotS v d : Nat) : Int)) ∧ w' = w := by
  have ha : (IntKind.u64.wrap n).tmod 32 = (d : Int) := by
    rw [IntKind.wrap_u64, tmod_of_emod]; omega
  have hk : Hid (bits .or .u32 ((v : Int) / 2 ^ d) ((v : Int) * 2 ^ (32 - d) % 4294967296) = ((rotS v d : Nat) : Int)) := rot_key v d hv (by omega)
  clear hnd
  by_cases h0 : d = 0
  · subst h0
    have hz : Hid (((rotS v 0 : Nat) : Int) = (v : Int)) := by rw [rot_zero]; rfl
    go_enter Try.func22, Try.ntmps22
    go_wp2
    go_ret
    exact ⟨ret_int hz.out.symm, rfl⟩
  · have hz : ((d : Int) == 0) = false := by simp; exact h0
    go_enter Try.func22, Try.ntmps22
    go_wp2
    go_ret
    exact ⟨ret_int hk.out, rfl⟩
theorem rrot_any (v : Nat) (hv : v < 4294967296) (n : Int) (w : World) :
    Calls Try.prog 22 #[.int .u32 (v : Int), .int .i64 n] w fun e w' => e = .returned (.int .u32 ((rotI v n : Nat) : Int)) ∧ w' = w :=
  rrot_in v hv n (n % 32).toNat (by omega) (by omega) w

theorem ret_two {a b : Int} (h : a = b) : Ending.returned (.tuple #[.int .u32 a, .bool true]) = .returned (.tuple #[.int .u32 b, .bool true]) := by rw [h]
/-- What Up answers. -/
def upV (v b : Nat) : Value := if 0 < b ∧ upS v b < 4294967296 then .tuple #[.int .u32 ((upS v b : Nat) : Int), .bool true] else .tuple #[.int .u32 0, .bool false]

set_option maxHeartbeats 400000 in
theorem up_none (v : Int) (w : World) :
    Calls Try.prog 17 #[.int .u32 v, .int .u32 0] w fun e w' => e = .returned (.tuple #[.int .u32 0, .bool false]) ∧ w' = w := by
  go_enter Try.func17, Try.ntmps17
  go_wp2
  go_ret2
  exact ⟨rfl, rfl⟩
theorem up_w1 (v b : Nat) (hv : v < 4294967296) (h0 : ¬ b = 0) (h : ((v : Int) % (b : Int) == 0) = true) : upV v b = .tuple #[.int .u32 (v : Int), .bool true] := by
  have h' : v % b = 0 := by rw [beq_iff_eq] at h; omega
  have e := up_zero v b (by omega) h'
  rw [upV, e, if_pos ⟨by omega, hv⟩]
theorem up_w2 (v b : Nat) (hv : v < 4294967296) (hb : b < 4294967296) (h0 : ¬ b = 0) (h : ((v : Int) % (b : Int) == 0) = false) (h2 : ((v : Int) + ((b : Int) - (v : Int) % (b : Int))) % 4294967296 < (v : Int)) : upV v b = .tuple #[.int .u32 0, .bool false] := by
  have h' : v % b ≠ 0 := by rw [beq_eq_false_iff_ne] at h; omega
  have e := up_some v b (by omega) h'
  have hm := Nat.mod_lt v (show 0 < b by omega)
  have hc : (v : Int) % (b : Int) = ((v % b : Nat) : Int) := by simp
  rw [hc] at h2
  rw [upV, e, if_neg (by omega)]
theorem up_w3 (v b : Nat) (hv : v < 4294967296) (hb : b < 4294967296) (h0 : ¬ b = 0) (h : ((v : Int) % (b : Int) == 0) = false) (h2 : (v : Int) ≤ ((v : Int) + ((b : Int) - (v : Int) % (b : Int))) % 4294967296) : upV v b = .tuple #[.int .u32 (((v : Int) + ((b : Int) - (v : Int) % (b : Int)) % 4294967296) % 4294967296), .bool true] := by
  have h' : v % b ≠ 0 := by rw [beq_eq_false_iff_ne] at h; omega
  have e := up_some v b (by omega) h'
  have hm := Nat.mod_lt v (show 0 < b by omega)
  have hc : (v : Int) % (b : Int) = ((v % b : Nat) : Int) := by simp
  rw [hc] at h2 ⊢
  rw [upV, e, if_pos (by omega), show ((v : Int) + ((b : Int) - ((v % b : Nat) : Int)) % 4294967296) % 4294967296 = ((v + (b - v % b) : Nat) : Int) from by omega]
theorem up_r (v b : Nat) (hv : v < 4294967296) (hb : b < 4294967296) (h0 : ¬ b = 0) : IntKind.u64.wrap (((v : Int) + (b : Int) - 1) / (b : Int) * (b : Int)) = ((upS v b : Nat) : Int) := by
  have e1 : (v : Int) + (b : Int) - 1 = ((v + b - 1 : Nat) : Int) := by omega
  have h1 : upS v b ≤ v + b - 1 := Nat.div_mul_le_self _ _
  rw [e1, ← Int.natCast_ediv, ← Int.natCast_mul, IntKind.wrap_u64]
  show ((upS v b : Nat) : Int) % _ = _
  omega
set_option maxHeartbeats 400000 in
theorem up_any (v b : Nat) (hv : v < 4294967296) (hb : b < 4294967296) (w : World) :
    Calls Try.prog 17 #[.int .u32 (v : Int), .int .u32 (b : Int)] w fun e w' => e = .returned (upV v b) ∧ w' = w := by
  by_cases h0 : b = 0
  · subst h0
    rw [upV, if_neg (by omega)]
    exact up_none v w
  · go_enter Try.func17, Try.ntmps17
    go_wp2
    · go_ret2
      exact ⟨by rw [up_w1 v b hv h0 ‹_›]; rfl, rfl⟩
    · go_ret2
      exact ⟨by rw [up_w2 v b hv hb h0 ‹_› ‹_›]; rfl, rfl⟩
    · go_ret2
      exact ⟨by rw [up_w3 v b hv hb h0 ‹_› ‹_›]; rfl, rfl⟩
set_option maxHeartbeats 400000 in
theorem rup_none (v : Int) (w : World) :
    Calls Try.prog 18 #[.int .u32 v, .int .u32 0] w fun e w' => e = .returned (.tuple #[.int .u32 0, .bool false]) ∧ w' = w := by
  go_enter Try.func18, Try.ntmps18
  go_wp2
  go_ret2
  exact ⟨rfl, rfl⟩
set_option maxHeartbeats 400000 in
theorem rup_any (v b : Nat) (hv : v < 4294967296) (hb : b < 4294967296) (w : World) :
    Calls Try.prog 18 #[.int .u32 (v : Int), .int .u32 (b : Int)] w fun e w' => e = .returned (upV v b) ∧ w' = w := by
  by_cases h0 : b = 0
  · subst h0
    rw [upV, if_neg (by omega)]
    exact rup_none v w
  · have hr : Hid (IntKind.u64.wrap (((v : Int) + (b : Int) - 1) / (b : Int) * (b : Int)) = ((upS v b : Nat) : Int)) := up_r v b hv hb h0
    go_enter Try.func18, Try.ntmps18
    go_wp2
    · go_ret2
      refine ⟨?_, rfl⟩
      have h2 : (4294967296 : Int) ≤ IntKind.u64.wrap (((v : Int) + (b : Int) - 1) / (b : Int) * (b : Int)) := by assumption
      rw [hr.out] at h2
      rw [upV, if_neg (by omega)]
      rfl
    · go_ret2
      refine ⟨?_, rfl⟩
      have h2 : IntKind.u64.wrap (((v : Int) + (b : Int) - 1) / (b : Int) * (b : Int)) < (4294967296 : Int) := by assumption
      rw [hr.out] at h2
      rw [upV, if_pos (by omega)]
      exact ret_two (by rw [hr.out]; omega)
end Go.Proofs.Ytajlhnojhpomdaa
