/- What is proved here: the document's LoadLeft, LoadRight, StoreLeft and StoreRight. -/
import Derived.Test.YtbdhgfjhgfohcaaWi
import Derived.LoopN
namespace Go.Proofs.Ytbdhgfjhgfohcaa
open Go.RowKit
set_option linter.unusedVariables false
set_option linter.unusedSimpArgs false
set_option maxRecDepth 100000
theorem wl14_0 (old v : Nat) (ho : old < 4294967296) (hv : v < 4294967296) : wdN (byN v 0) (byN v 1) (byN v 2) (byN v 3) = layN true old v 0 := by
  show (v / 16777216 % 256) * 16777216 + (v / 65536 % 256) * 65536 + (v / 256 % 256) * 256 + v / 1 % 256 = v * 1 % 4294967296 + old % 1
  omega
set_option maxHeartbeats 1000000 in
theorem rloadLeft14_0 (old v : Nat) (a : Int) (ha : aheadN a = 0) (ho : old < 4294967296) (hv : v < 4294967296) (w : World) : Calls Try.prog 14 #[.int .u32 (old : Int), .int .u32 (v : Int), .int .i64 a] w fun e w' => e = .returned (.int .u32 ((layN true old v 0 : Nat) : Int)) ∧ Below w.heap.size w w' := by
  rw [← wl14_0 old v ho hv]
  have K1 : Hid (∀ w, Calls Try.prog 31 #[.int .i64 a] w fun e w' => e = .returned (.int .i64 0) ∧ w' = w) := fun w => by
    have h := place31 a w
    rw [ha] at h
    exact h
  have Kv0 : Hid (∀ w, Calls Try.prog 32 #[.int .u32 (v : Int), .int .i64 0] w fun e w' => e = .returned (.int .u32 ((byN v 0 : Nat) : Int)) ∧ w' = w) := byteOf32 v 0 hv (by decide)
  have Kv1 : Hid (∀ w, Calls Try.prog 32 #[.int .u32 (v : Int), .int .i64 1] w fun e w' => e = .returned (.int .u32 ((byN v 1 : Nat) : Int)) ∧ w' = w) := byteOf32 v 1 hv (by decide)
  have Kv2 : Hid (∀ w, Calls Try.prog 32 #[.int .u32 (v : Int), .int .i64 2] w fun e w' => e = .returned (.int .u32 ((byN v 2 : Nat) : Int)) ∧ w' = w) := byteOf32 v 2 hv (by decide)
  have Kv3 : Hid (∀ w, Calls Try.prog 32 #[.int .u32 (v : Int), .int .i64 3] w fun e w' => e = .returned (.int .u32 ((byN v 3 : Nat) : Int)) ∧ w' = w) := byteOf32 v 3 hv (by decide)
  have KW : Hid (∀ w : World, Calls Try.prog 33 #[.agg #[.int .u32 ((byN v 0 : Nat) : Int), .int .u32 ((byN v 1 : Nat) : Int), .int .u32 ((byN v 2 : Nat) : Int), .int .u32 ((byN v 3 : Nat) : Int)]] w fun e w' => e = .returned (.int .u32 ((wdN (byN v 0) (byN v 1) (byN v 2) (byN v 3) : Nat) : Int)) ∧ Below w.heap.size w w') := word33 _ _ _ _ (by_lt _ _) (by_lt _ _) (by_lt _ _) (by_lt _ _)
  generalize wdN (byN v 0) (byN v 1) (byN v 2) (byN v 3) = z at *
  generalize byN v 0 = b0 at *
  generalize byN v 1 = b1 at *
  generalize byN v 2 = b2 at *
  generalize byN v 3 = b3 at *
  clear ho hv ha
  go_enter Try.func14, Try.ntmps14
  go_wp2_with fail
  refine (K1.out _).mono ?_
  rintro e w1 ⟨rfl, rfl⟩
  go_wp2_with fail
  refine wp_loop_rounds 5 ?_
  rw [rounds_succ]
  go_wp2_with fail
  refine (Kv0.out _).mono ?_
  rintro e w1 ⟨rfl, rfl⟩
  go_wp2_with fail
  rw [rounds_succ]
  go_wp2_with fail
  refine (Kv1.out _).mono ?_
  rintro e w1 ⟨rfl, rfl⟩
  go_wp2_with fail
  rw [rounds_succ]
  go_wp2_with fail
  refine (Kv2.out _).mono ?_
  rintro e w1 ⟨rfl, rfl⟩
  go_wp2_with fail
  rw [rounds_succ]
  go_wp2_with fail
  refine (Kv3.out _).mono ?_
  rintro e w1 ⟨rfl, rfl⟩
  go_wp2_with fail
  rw [rounds_succ]
  go_wp2_with fail
  refine (KW.out _).mono ?_
  rintro e w1 ⟨rfl, hb⟩
  go_wp2
  go_ret
  exact ⟨rfl, below_tr ((Below.refl _ _).alloc (Nat.le_refl _) _) hb⟩
theorem wl14_1 (old v : Nat) (ho : old < 4294967296) (hv : v < 4294967296) : wdN (byN v 1) (byN v 2) (byN v 3) (byN old 3) = layN true old v 1 := by
  show (v / 65536 % 256) * 16777216 + (v / 256 % 256) * 65536 + (v / 1 % 256) * 256 + old / 1 % 256 = v * 256 % 4294967296 + old % 256
  omega
set_option maxHeartbeats 1000000 in
theorem rloadLeft14_1 (old v : Nat) (a : Int) (ha : aheadN a = 1) (ho : old < 4294967296) (hv : v < 4294967296) (w : World) : Calls Try.prog 14 #[.int .u32 (old : Int), .int .u32 (v : Int), .int .i64 a] w fun e w' => e = .returned (.int .u32 ((layN true old v 1 : Nat) : Int)) ∧ Below w.heap.size w w' := by
  rw [← wl14_1 old v ho hv]
  have K1 : Hid (∀ w, Calls Try.prog 31 #[.int .i64 a] w fun e w' => e = .returned (.int .i64 1) ∧ w' = w) := fun w => by
    have h := place31 a w
    rw [ha] at h
    exact h
  have Kv1 : Hid (∀ w, Calls Try.prog 32 #[.int .u32 (v : Int), .int .i64 1] w fun e w' => e = .returned (.int .u32 ((byN v 1 : Nat) : Int)) ∧ w' = w) := byteOf32 v 1 hv (by decide)
  have Kv2 : Hid (∀ w, Calls Try.prog 32 #[.int .u32 (v : Int), .int .i64 2] w fun e w' => e = .returned (.int .u32 ((byN v 2 : Nat) : Int)) ∧ w' = w) := byteOf32 v 2 hv (by decide)
  have Kv3 : Hid (∀ w, Calls Try.prog 32 #[.int .u32 (v : Int), .int .i64 3] w fun e w' => e = .returned (.int .u32 ((byN v 3 : Nat) : Int)) ∧ w' = w) := byteOf32 v 3 hv (by decide)
  have Kold3 : Hid (∀ w, Calls Try.prog 32 #[.int .u32 (old : Int), .int .i64 3] w fun e w' => e = .returned (.int .u32 ((byN old 3 : Nat) : Int)) ∧ w' = w) := byteOf32 old 3 ho (by decide)
  have KW : Hid (∀ w : World, Calls Try.prog 33 #[.agg #[.int .u32 ((byN v 1 : Nat) : Int), .int .u32 ((byN v 2 : Nat) : Int), .int .u32 ((byN v 3 : Nat) : Int), .int .u32 ((byN old 3 : Nat) : Int)]] w fun e w' => e = .returned (.int .u32 ((wdN (byN v 1) (byN v 2) (byN v 3) (byN old 3) : Nat) : Int)) ∧ Below w.heap.size w w') := word33 _ _ _ _ (by_lt _ _) (by_lt _ _) (by_lt _ _) (by_lt _ _)
  generalize wdN (byN v 1) (byN v 2) (byN v 3) (byN old 3) = z at *
  generalize byN v 1 = b0 at *
  generalize byN v 2 = b1 at *
  generalize byN v 3 = b2 at *
  generalize byN old 3 = b3 at *
  clear ho hv ha
  go_enter Try.func14, Try.ntmps14
  go_wp2_with fail
  refine (K1.out _).mono ?_
  rintro e w1 ⟨rfl, rfl⟩
  go_wp2_with fail
  refine wp_loop_rounds 5 ?_
  rw [rounds_succ]
  go_wp2_with fail
  refine (Kv1.out _).mono ?_
  rintro e w1 ⟨rfl, rfl⟩
  go_wp2_with fail
  rw [rounds_succ]
  go_wp2_with fail
  refine (Kv2.out _).mono ?_
  rintro e w1 ⟨rfl, rfl⟩
  go_wp2_with fail
  rw [rounds_succ]
  go_wp2_with fail
  refine (Kv3.out _).mono ?_
  rintro e w1 ⟨rfl, rfl⟩
  go_wp2_with fail
  rw [rounds_succ]
  go_wp2_with fail
  refine (Kold3.out _).mono ?_
  rintro e w1 ⟨rfl, rfl⟩
  go_wp2_with fail
  rw [rounds_succ]
  go_wp2_with fail
  refine (KW.out _).mono ?_
  rintro e w1 ⟨rfl, hb⟩
  go_wp2
  go_ret
  exact ⟨rfl, below_tr ((Below.refl _ _).alloc (Nat.le_refl _) _) hb⟩
theorem wl14_2 (old v : Nat) (ho : old < 4294967296) (hv : v < 4294967296) : wdN (byN v 2) (byN v 3) (byN old 2) (byN old 3) = layN true old v 2 := by
  show (v / 256 % 256) * 16777216 + (v / 1 % 256) * 65536 + (old / 256 % 256) * 256 + old / 1 % 256 = v * 65536 % 4294967296 + old % 65536
  omega
set_option maxHeartbeats 1000000 in
theorem rloadLeft14_2 (old v : Nat) (a : Int) (ha : aheadN a = 2) (ho : old < 4294967296) (hv : v < 4294967296) (w : World) : Calls Try.prog 14 #[.int .u32 (old : Int), .int .u32 (v : Int), .int .i64 a] w fun e w' => e = .returned (.int .u32 ((layN true old v 2 : Nat) : Int)) ∧ Below w.heap.size w w' := by
  rw [← wl14_2 old v ho hv]
  have K1 : Hid (∀ w, Calls Try.prog 31 #[.int .i64 a] w fun e w' => e = .returned (.int .i64 2) ∧ w' = w) := fun w => by
    have h := place31 a w
    rw [ha] at h
    exact h
  have Kv2 : Hid (∀ w, Calls Try.prog 32 #[.int .u32 (v : Int), .int .i64 2] w fun e w' => e = .returned (.int .u32 ((byN v 2 : Nat) : Int)) ∧ w' = w) := byteOf32 v 2 hv (by decide)
  have Kv3 : Hid (∀ w, Calls Try.prog 32 #[.int .u32 (v : Int), .int .i64 3] w fun e w' => e = .returned (.int .u32 ((byN v 3 : Nat) : Int)) ∧ w' = w) := byteOf32 v 3 hv (by decide)
  have Kold2 : Hid (∀ w, Calls Try.prog 32 #[.int .u32 (old : Int), .int .i64 2] w fun e w' => e = .returned (.int .u32 ((byN old 2 : Nat) : Int)) ∧ w' = w) := byteOf32 old 2 ho (by decide)
  have Kold3 : Hid (∀ w, Calls Try.prog 32 #[.int .u32 (old : Int), .int .i64 3] w fun e w' => e = .returned (.int .u32 ((byN old 3 : Nat) : Int)) ∧ w' = w) := byteOf32 old 3 ho (by decide)
  have KW : Hid (∀ w : World, Calls Try.prog 33 #[.agg #[.int .u32 ((byN v 2 : Nat) : Int), .int .u32 ((byN v 3 : Nat) : Int), .int .u32 ((byN old 2 : Nat) : Int), .int .u32 ((byN old 3 : Nat) : Int)]] w fun e w' => e = .returned (.int .u32 ((wdN (byN v 2) (byN v 3) (byN old 2) (byN old 3) : Nat) : Int)) ∧ Below w.heap.size w w') := word33 _ _ _ _ (by_lt _ _) (by_lt _ _) (by_lt _ _) (by_lt _ _)
  generalize wdN (byN v 2) (byN v 3) (byN old 2) (byN old 3) = z at *
  generalize byN v 2 = b0 at *
  generalize byN v 3 = b1 at *
  generalize byN old 2 = b2 at *
  generalize byN old 3 = b3 at *
  clear ho hv ha
  go_enter Try.func14, Try.ntmps14
  go_wp2_with fail
  refine (K1.out _).mono ?_
  rintro e w1 ⟨rfl, rfl⟩
  go_wp2_with fail
  refine wp_loop_rounds 5 ?_
  rw [rounds_succ]
  go_wp2_with fail
  refine (Kv2.out _).mono ?_
  rintro e w1 ⟨rfl, rfl⟩
  go_wp2_with fail
  rw [rounds_succ]
  go_wp2_with fail
  refine (Kv3.out _).mono ?_
  rintro e w1 ⟨rfl, rfl⟩
  go_wp2_with fail
  rw [rounds_succ]
  go_wp2_with fail
  refine (Kold2.out _).mono ?_
  rintro e w1 ⟨rfl, rfl⟩
  go_wp2_with fail
  rw [rounds_succ]
  go_wp2_with fail
  refine (Kold3.out _).mono ?_
  rintro e w1 ⟨rfl, rfl⟩
  go_wp2_with fail
  rw [rounds_succ]
  go_wp2_with fail
  refine (KW.out _).mono ?_
  rintro e w1 ⟨rfl, hb⟩
  go_wp2
  go_ret
  exact ⟨rfl, below_tr ((Below.refl _ _).alloc (Nat.le_refl _) _) hb⟩
theorem wl14_3 (old v : Nat) (ho : old < 4294967296) (hv : v < 4294967296) : wdN (byN v 3) (byN old 1) (byN old 2) (byN old 3) = layN true old v 3 := by
  show (v / 1 % 256) * 16777216 + (old / 65536 % 256) * 65536 + (old / 256 % 256) * 256 + old / 1 % 256 = v * 16777216 % 4294967296 + old % 16777216
  omega
set_option maxHeartbeats 1000000 in
theorem rloadLeft14_3 (old v : Nat) (a : Int) (ha : aheadN a = 3) (ho : old < 4294967296) (hv : v < 4294967296) (w : World) : Calls Try.prog 14 #[.int .u32 (old : Int), .int .u32 (v : Int), .int .i64 a] w fun e w' => e = .returned (.int .u32 ((layN true old v 3 : Nat) : Int)) ∧ Below w.heap.size w w' := by
  rw [← wl14_3 old v ho hv]
  have K1 : Hid (∀ w, Calls Try.prog 31 #[.int .i64 a] w fun e w' => e = .returned (.int .i64 3) ∧ w' = w) := fun w => by
    have h := place31 a w
    rw [ha] at h
    exact h
  have Kv3 : Hid (∀ w, Calls Try.prog 32 #[.int .u32 (v : Int), .int .i64 3] w fun e w' => e = .returned (.int .u32 ((byN v 3 : Nat) : Int)) ∧ w' = w) := byteOf32 v 3 hv (by decide)
  have Kold1 : Hid (∀ w, Calls Try.prog 32 #[.int .u32 (old : Int), .int .i64 1] w fun e w' => e = .returned (.int .u32 ((byN old 1 : Nat) : Int)) ∧ w' = w) := byteOf32 old 1 ho (by decide)
  have Kold2 : Hid (∀ w, Calls Try.prog 32 #[.int .u32 (old : Int), .int .i64 2] w fun e w' => e = .returned (.int .u32 ((byN old 2 : Nat) : Int)) ∧ w' = w) := byteOf32 old 2 ho (by decide)
  have Kold3 : Hid (∀ w, Calls Try.prog 32 #[.int .u32 (old : Int), .int .i64 3] w fun e w' => e = .returned (.int .u32 ((byN old 3 : Nat) : Int)) ∧ w' = w) := byteOf32 old 3 ho (by decide)
  have KW : Hid (∀ w : World, Calls Try.prog 33 #[.agg #[.int .u32 ((byN v 3 : Nat) : Int), .int .u32 ((byN old 1 : Nat) : Int), .int .u32 ((byN old 2 : Nat) : Int), .int .u32 ((byN old 3 : Nat) : Int)]] w fun e w' => e = .returned (.int .u32 ((wdN (byN v 3) (byN old 1) (byN old 2) (byN old 3) : Nat) : Int)) ∧ Below w.heap.size w w') := word33 _ _ _ _ (by_lt _ _) (by_lt _ _) (by_lt _ _) (by_lt _ _)
  generalize wdN (byN v 3) (byN old 1) (byN old 2) (byN old 3) = z at *
  generalize byN v 3 = b0 at *
  generalize byN old 1 = b1 at *
  generalize byN old 2 = b2 at *
  generalize byN old 3 = b3 at *
  clear ho hv ha
  go_enter Try.func14, Try.ntmps14
  go_wp2_with fail
  refine (K1.out _).mono ?_
  rintro e w1 ⟨rfl, rfl⟩
  go_wp2_with fail
  refine wp_loop_rounds 5 ?_
  rw [rounds_succ]
  go_wp2_with fail
  refine (Kv3.out _).mono ?_
  rintro e w1 ⟨rfl, rfl⟩
  go_wp2_with fail
  rw [rounds_succ]
  go_wp2_with fail
  refine (Kold1.out _).mono ?_
  rintro e w1 ⟨rfl, rfl⟩
  go_wp2_with fail
  rw [rounds_succ]
  go_wp2_with fail
  refine (Kold2.out _).mono ?_
  rintro e w1 ⟨rfl, rfl⟩
  go_wp2_with fail
  rw [rounds_succ]
  go_wp2_with fail
  refine (Kold3.out _).mono ?_
  rintro e w1 ⟨rfl, rfl⟩
  go_wp2_with fail
  rw [rounds_succ]
  go_wp2_with fail
  refine (KW.out _).mono ?_
  rintro e w1 ⟨rfl, hb⟩
  go_wp2
  go_ret
  exact ⟨rfl, below_tr ((Below.refl _ _).alloc (Nat.le_refl _) _) hb⟩
theorem rloadLeft14 (old v : Nat) (a : Int) (ho : old < 4294967296) (hv : v < 4294967296) (w : World) : Calls Try.prog 14 #[.int .u32 (old : Int), .int .u32 (v : Int), .int .i64 a] w fun e w' => e = .returned (.int .u32 ((layN true old v (aheadN a) : Nat) : Int)) ∧ Below w.heap.size w w' := by
  have h : aheadN a = 0 ∨ aheadN a = 1 ∨ aheadN a = 2 ∨ aheadN a = 3 := by unfold aheadN; omega
  rcases h with h | h | h | h
  · rw [show aheadN a = 0 from by first | exact h | (unfold aheadN at h; unfold behindN; omega)]
    exact rloadLeft14_0 old v a h ho hv w
  · rw [show aheadN a = 1 from by first | exact h | (unfold aheadN at h; unfold behindN; omega)]
    exact rloadLeft14_1 old v a h ho hv w
  · rw [show aheadN a = 2 from by first | exact h | (unfold aheadN at h; unfold behindN; omega)]
    exact rloadLeft14_2 old v a h ho hv w
  · rw [show aheadN a = 3 from by first | exact h | (unfold aheadN at h; unfold behindN; omega)]
    exact rloadLeft14_3 old v a h ho hv w
theorem wl16_0 (old v : Nat) (ho : old < 4294967296) (hv : v < 4294967296) : wdN (byN old 0) (byN old 1) (byN old 2) (byN v 0) = layN false old v 3 := by
  show (old / 16777216 % 256) * 16777216 + (old / 65536 % 256) * 65536 + (old / 256 % 256) * 256 + v / 16777216 % 256 = old / 256 * 256 + v / 16777216
  omega
set_option maxHeartbeats 1000000 in
theorem rloadRight16_0 (old v : Nat) (a : Int) (ha : aheadN a = 0) (ho : old < 4294967296) (hv : v < 4294967296) (w : World) : Calls Try.prog 16 #[.int .u32 (old : Int), .int .u32 (v : Int), .int .i64 a] w fun e w' => e = .returned (.int .u32 ((layN false old v 3 : Nat) : Int)) ∧ Below w.heap.size w w' := by
  rw [← wl16_0 old v ho hv]
  have K1 : Hid (∀ w, Calls Try.prog 31 #[.int .i64 a] w fun e w' => e = .returned (.int .i64 0) ∧ w' = w) := fun w => by
    have h := place31 a w
    rw [ha] at h
    exact h
  have Kold0 : Hid (∀ w, Calls Try.prog 32 #[.int .u32 (old : Int), .int .i64 0] w fun e w' => e = .returned (.int .u32 ((byN old 0 : Nat) : Int)) ∧ w' = w) := byteOf32 old 0 ho (by decide)
  have Kold1 : Hid (∀ w, Calls Try.prog 32 #[.int .u32 (old : Int), .int .i64 1] w fun e w' => e = .returned (.int .u32 ((byN old 1 : Nat) : Int)) ∧ w' = w) := byteOf32 old 1 ho (by decide)
  have Kold2 : Hid (∀ w, Calls Try.prog 32 #[.int .u32 (old : Int), .int .i64 2] w fun e w' => e = .returned (.int .u32 ((byN old 2 : Nat) : Int)) ∧ w' = w) := byteOf32 old 2 ho (by decide)
  have Kv0 : Hid (∀ w, Calls Try.prog 32 #[.int .u32 (v : Int), .int .i64 0] w fun e w' => e = .returned (.int .u32 ((byN v 0 : Nat) : Int)) ∧ w' = w) := byteOf32 v 0 hv (by decide)
  have KW : Hid (∀ w : World, Calls Try.prog 33 #[.agg #[.int .u32 ((byN old 0 : Nat) : Int), .int .u32 ((byN old 1 : Nat) : Int), .int .u32 ((byN old 2 : Nat) : Int), .int .u32 ((byN v 0 : Nat) : Int)]] w fun e w' => e = .returned (.int .u32 ((wdN (byN old 0) (byN old 1) (byN old 2) (byN v 0) : Nat) : Int)) ∧ Below w.heap.size w w') := word33 _ _ _ _ (by_lt _ _) (by_lt _ _) (by_lt _ _) (by_lt _ _)
  generalize wdN (byN old 0) (byN old 1) (byN old 2) (byN v 0) = z at *
  generalize byN old 0 = b0 at *
  generalize byN old 1 = b1 at *
  generalize byN old 2 = b2 at *
  generalize byN v 0 = b3 at *
  clear ho hv ha
  go_enter Try.func16, Try.ntmps16
  go_wp2_with fail
  refine (K1.out _).mono ?_
  rintro e w1 ⟨rfl, rfl⟩
  go_wp2_with fail
  refine wp_loop_rounds 5 ?_
  rw [rounds_succ]
  go_wp2_with fail
  refine (Kold0.out _).mono ?_
  rintro e w1 ⟨rfl, rfl⟩
  go_wp2_with fail
  rw [rounds_succ]
  go_wp2_with fail
  refine (Kold1.out _).mono ?_
  rintro e w1 ⟨rfl, rfl⟩
  go_wp2_with fail
  rw [rounds_succ]
  go_wp2_with fail
  refine (Kold2.out _).mono ?_
  rintro e w1 ⟨rfl, rfl⟩
  go_wp2_with fail
  rw [rounds_succ]
  go_wp2_with fail
  refine (Kv0.out _).mono ?_
  rintro e w1 ⟨rfl, rfl⟩
  go_wp2_with fail
  rw [rounds_succ]
  go_wp2_with fail
  refine (KW.out _).mono ?_
  rintro e w1 ⟨rfl, hb⟩
  go_wp2
  go_ret
  exact ⟨rfl, below_tr ((Below.refl _ _).alloc (Nat.le_refl _) _) hb⟩
theorem wl16_1 (old v : Nat) (ho : old < 4294967296) (hv : v < 4294967296) : wdN (byN old 0) (byN old 1) (byN v 0) (byN v 1) = layN false old v 2 := by
  show (old / 16777216 % 256) * 16777216 + (old / 65536 % 256) * 65536 + (v / 16777216 % 256) * 256 + v / 65536 % 256 = old / 65536 * 65536 + v / 65536
  omega
set_option maxHeartbeats 1000000 in
theorem rloadRight16_1 (old v : Nat) (a : Int) (ha : aheadN a = 1) (ho : old < 4294967296) (hv : v < 4294967296) (w : World) : Calls Try.prog 16 #[.int .u32 (old : Int), .int .u32 (v : Int), .int .i64 a] w fun e w' => e = .returned (.int .u32 ((layN false old v 2 : Nat) : Int)) ∧ Below w.heap.size w w' := by
  rw [← wl16_1 old v ho hv]
  have K1 : Hid (∀ w, Calls Try.prog 31 #[.int .i64 a] w fun e w' => e = .returned (.int .i64 1) ∧ w' = w) := fun w => by
    have h := place31 a w
    rw [ha] at h
    exact h
  have Kold0 : Hid (∀ w, Calls Try.prog 32 #[.int .u32 (old : Int), .int .i64 0] w fun e w' => e = .returned (.int .u32 ((byN old 0 : Nat) : Int)) ∧ w' = w) := byteOf32 old 0 ho (by decide)
  have Kold1 : Hid (∀ w, Calls Try.prog 32 #[.int .u32 (old : Int), .int .i64 1] w fun e w' => e = .returned (.int .u32 ((byN old 1 : Nat) : Int)) ∧ w' = w) := byteOf32 old 1 ho (by decide)
  have Kv0 : Hid (∀ w, Calls Try.prog 32 #[.int .u32 (v : Int), .int .i64 0] w fun e w' => e = .returned (.int .u32 ((byN v 0 : Nat) : Int)) ∧ w' = w) := byteOf32 v 0 hv (by decide)
  have Kv1 : Hid (∀ w, Calls Try.prog 32 #[.int .u32 (v : Int), .int .i64 1] w fun e w' => e = .returned (.int .u32 ((byN v 1 : Nat) : Int)) ∧ w' = w) := byteOf32 v 1 hv (by decide)
  have KW : Hid (∀ w : World, Calls Try.prog 33 #[.agg #[.int .u32 ((byN old 0 : Nat) : Int), .int .u32 ((byN old 1 : Nat) : Int), .int .u32 ((byN v 0 : Nat) : Int), .int .u32 ((byN v 1 : Nat) : Int)]] w fun e w' => e = .returned (.int .u32 ((wdN (byN old 0) (byN old 1) (byN v 0) (byN v 1) : Nat) : Int)) ∧ Below w.heap.size w w') := word33 _ _ _ _ (by_lt _ _) (by_lt _ _) (by_lt _ _) (by_lt _ _)
  generalize wdN (byN old 0) (byN old 1) (byN v 0) (byN v 1) = z at *
  generalize byN old 0 = b0 at *
  generalize byN old 1 = b1 at *
  generalize byN v 0 = b2 at *
  generalize byN v 1 = b3 at *
  clear ho hv ha
  go_enter Try.func16, Try.ntmps16
  go_wp2_with fail
  refine (K1.out _).mono ?_
  rintro e w1 ⟨rfl, rfl⟩
  go_wp2_with fail
  refine wp_loop_rounds 5 ?_
  rw [rounds_succ]
  go_wp2_with fail
  refine (Kold0.out _).mono ?_
  rintro e w1 ⟨rfl, rfl⟩
  go_wp2_with fail
  rw [rounds_succ]
  go_wp2_with fail
  refine (Kold1.out _).mono ?_
  rintro e w1 ⟨rfl, rfl⟩
  go_wp2_with fail
  rw [rounds_succ]
  go_wp2_with fail
  refine (Kv0.out _).mono ?_
  rintro e w1 ⟨rfl, rfl⟩
  go_wp2_with fail
  rw [rounds_succ]
  go_wp2_with fail
  refine (Kv1.out _).mono ?_
  rintro e w1 ⟨rfl, rfl⟩
  go_wp2_with fail
  rw [rounds_succ]
  go_wp2_with fail
  refine (KW.out _).mono ?_
  rintro e w1 ⟨rfl, hb⟩
  go_wp2
  go_ret
  exact ⟨rfl, below_tr ((Below.refl _ _).alloc (Nat.le_refl _) _) hb⟩
theorem wl16_2 (old v : Nat) (ho : old < 4294967296) (hv : v < 4294967296) : wdN (byN old 0) (byN v 0) (byN v 1) (byN v 2) = layN false old v 1 := by
  show (old / 16777216 % 256) * 16777216 + (v / 16777216 % 256) * 65536 + (v / 65536 % 256) * 256 + v / 256 % 256 = old / 16777216 * 16777216 + v / 256
  omega
set_option maxHeartbeats 1000000 in
theorem rloadRight16_2 (old v : Nat) (a : Int) (ha : aheadN a = 2) (ho : old < 4294967296) (hv : v < 4294967296) (w : World) : Calls Try.prog 16 #[.int .u32 (old : Int), .int .u32 (v : Int), .int .i64 a] w fun e w' => e = .returned (.int .u32 ((layN false old v 1 : Nat) : Int)) ∧ Below w.heap.size w w' := by
  rw [← wl16_2 old v ho hv]
  have K1 : Hid (∀ w, Calls Try.prog 31 #[.int .i64 a] w fun e w' => e = .returned (.int .i64 2) ∧ w' = w) := fun w => by
    have h := place31 a w
    rw [ha] at h
    exact h
  have Kold0 : Hid (∀ w, Calls Try.prog 32 #[.int .u32 (old : Int), .int .i64 0] w fun e w' => e = .returned (.int .u32 ((byN old 0 : Nat) : Int)) ∧ w' = w) := byteOf32 old 0 ho (by decide)
  have Kv0 : Hid (∀ w, Calls Try.prog 32 #[.int .u32 (v : Int), .int .i64 0] w fun e w' => e = .returned (.int .u32 ((byN v 0 : Nat) : Int)) ∧ w' = w) := byteOf32 v 0 hv (by decide)
  have Kv1 : Hid (∀ w, Calls Try.prog 32 #[.int .u32 (v : Int), .int .i64 1] w fun e w' => e = .returned (.int .u32 ((byN v 1 : Nat) : Int)) ∧ w' = w) := byteOf32 v 1 hv (by decide)
  have Kv2 : Hid (∀ w, Calls Try.prog 32 #[.int .u32 (v : Int), .int .i64 2] w fun e w' => e = .returned (.int .u32 ((byN v 2 : Nat) : Int)) ∧ w' = w) := byteOf32 v 2 hv (by decide)
  have KW : Hid (∀ w : World, Calls Try.prog 33 #[.agg #[.int .u32 ((byN old 0 : Nat) : Int), .int .u32 ((byN v 0 : Nat) : Int), .int .u32 ((byN v 1 : Nat) : Int), .int .u32 ((byN v 2 : Nat) : Int)]] w fun e w' => e = .returned (.int .u32 ((wdN (byN old 0) (byN v 0) (byN v 1) (byN v 2) : Nat) : Int)) ∧ Below w.heap.size w w') := word33 _ _ _ _ (by_lt _ _) (by_lt _ _) (by_lt _ _) (by_lt _ _)
  generalize wdN (byN old 0) (byN v 0) (byN v 1) (byN v 2) = z at *
  generalize byN old 0 = b0 at *
  generalize byN v 0 = b1 at *
  generalize byN v 1 = b2 at *
  generalize byN v 2 = b3 at *
  clear ho hv ha
  go_enter Try.func16, Try.ntmps16
  go_wp2_with fail
  refine (K1.out _).mono ?_
  rintro e w1 ⟨rfl, rfl⟩
  go_wp2_with fail
  refine wp_loop_rounds 5 ?_
  rw [rounds_succ]
  go_wp2_with fail
  refine (Kold0.out _).mono ?_
  rintro e w1 ⟨rfl, rfl⟩
  go_wp2_with fail
  rw [rounds_succ]
  go_wp2_with fail
  refine (Kv0.out _).mono ?_
  rintro e w1 ⟨rfl, rfl⟩
  go_wp2_with fail
  rw [rounds_succ]
  go_wp2_with fail
  refine (Kv1.out _).mono ?_
  rintro e w1 ⟨rfl, rfl⟩
  go_wp2_with fail
  rw [rounds_succ]
  go_wp2_with fail
  refine (Kv2.out _).mono ?_
  rintro e w1 ⟨rfl, rfl⟩
  go_wp2_with fail
  rw [rounds_succ]
  go_wp2_with fail
  refine (KW.out _).mono ?_
  rintro e w1 ⟨rfl, hb⟩
  go_wp2
  go_ret
  exact ⟨rfl, below_tr ((Below.refl _ _).alloc (Nat.le_refl _) _) hb⟩
theorem wl16_3 (old v : Nat) (ho : old < 4294967296) (hv : v < 4294967296) : wdN (byN v 0) (byN v 1) (byN v 2) (byN v 3) = layN false old v 0 := by
  show (v / 16777216 % 256) * 16777216 + (v / 65536 % 256) * 65536 + (v / 256 % 256) * 256 + v / 1 % 256 = old / 4294967296 * 4294967296 + v / 1
  omega
set_option maxHeartbeats 1000000 in
theorem rloadRight16_3 (old v : Nat) (a : Int) (ha : aheadN a = 3) (ho : old < 4294967296) (hv : v < 4294967296) (w : World) : Calls Try.prog 16 #[.int .u32 (old : Int), .int .u32 (v : Int), .int .i64 a] w fun e w' => e = .returned (.int .u32 ((layN false old v 0 : Nat) : Int)) ∧ Below w.heap.size w w' := by
  rw [← wl16_3 old v ho hv]
  have K1 : Hid (∀ w, Calls Try.prog 31 #[.int .i64 a] w fun e w' => e = .returned (.int .i64 3) ∧ w' = w) := fun w => by
    have h := place31 a w
    rw [ha] at h
    exact h
  have Kv0 : Hid (∀ w, Calls Try.prog 32 #[.int .u32 (v : Int), .int .i64 0] w fun e w' => e = .returned (.int .u32 ((byN v 0 : Nat) : Int)) ∧ w' = w) := byteOf32 v 0 hv (by decide)
  have Kv1 : Hid (∀ w, Calls Try.prog 32 #[.int .u32 (v : Int), .int .i64 1] w fun e w' => e = .returned (.int .u32 ((byN v 1 : Nat) : Int)) ∧ w' = w) := byteOf32 v 1 hv (by decide)
  have Kv2 : Hid (∀ w, Calls Try.prog 32 #[.int .u32 (v : Int), .int .i64 2] w fun e w' => e = .returned (.int .u32 ((byN v 2 : Nat) : Int)) ∧ w' = w) := byteOf32 v 2 hv (by decide)
  have Kv3 : Hid (∀ w, Calls Try.prog 32 #[.int .u32 (v : Int), .int .i64 3] w fun e w' => e = .returned (.int .u32 ((byN v 3 : Nat) : Int)) ∧ w' = w) := byteOf32 v 3 hv (by decide)
  have KW : Hid (∀ w : World, Calls Try.prog 33 #[.agg #[.int .u32 ((byN v 0 : Nat) : Int), .int .u32 ((byN v 1 : Nat) : Int), .int .u32 ((byN v 2 : Nat) : Int), .int .u32 ((byN v 3 : Nat) : Int)]] w fun e w' => e = .returned (.int .u32 ((wdN (byN v 0) (byN v 1) (byN v 2) (byN v 3) : Nat) : Int)) ∧ Below w.heap.size w w') := word33 _ _ _ _ (by_lt _ _) (by_lt _ _) (by_lt _ _) (by_lt _ _)
  generalize wdN (byN v 0) (byN v 1) (byN v 2) (byN v 3) = z at *
  generalize byN v 0 = b0 at *
  generalize byN v 1 = b1 at *
  generalize byN v 2 = b2 at *
  generalize byN v 3 = b3 at *
  clear ho hv ha
  go_enter Try.func16, Try.ntmps16
  go_wp2_with fail
  refine (K1.out _).mono ?_
  rintro e w1 ⟨rfl, rfl⟩
  go_wp2_with fail
  refine wp_loop_rounds 5 ?_
  rw [rounds_succ]
  go_wp2_with fail
  refine (Kv0.out _).mono ?_
  rintro e w1 ⟨rfl, rfl⟩
  go_wp2_with fail
  rw [rounds_succ]
  go_wp2_with fail
  refine (Kv1.out _).mono ?_
  rintro e w1 ⟨rfl, rfl⟩
  go_wp2_with fail
  rw [rounds_succ]
  go_wp2_with fail
  refine (Kv2.out _).mono ?_
  rintro e w1 ⟨rfl, rfl⟩
  go_wp2_with fail
  rw [rounds_succ]
  go_wp2_with fail
  refine (Kv3.out _).mono ?_
  rintro e w1 ⟨rfl, rfl⟩
  go_wp2_with fail
  rw [rounds_succ]
  go_wp2_with fail
  refine (KW.out _).mono ?_
  rintro e w1 ⟨rfl, hb⟩
  go_wp2
  go_ret
  exact ⟨rfl, below_tr ((Below.refl _ _).alloc (Nat.le_refl _) _) hb⟩
theorem rloadRight16 (old v : Nat) (a : Int) (ho : old < 4294967296) (hv : v < 4294967296) (w : World) : Calls Try.prog 16 #[.int .u32 (old : Int), .int .u32 (v : Int), .int .i64 a] w fun e w' => e = .returned (.int .u32 ((layN false old v (behindN a) : Nat) : Int)) ∧ Below w.heap.size w w' := by
  have h : aheadN a = 0 ∨ aheadN a = 1 ∨ aheadN a = 2 ∨ aheadN a = 3 := by unfold aheadN; omega
  rcases h with h | h | h | h
  · rw [show behindN a = 3 from by first | exact h | (unfold aheadN at h; unfold behindN; omega)]
    exact rloadRight16_0 old v a h ho hv w
  · rw [show behindN a = 2 from by first | exact h | (unfold aheadN at h; unfold behindN; omega)]
    exact rloadRight16_1 old v a h ho hv w
  · rw [show behindN a = 1 from by first | exact h | (unfold aheadN at h; unfold behindN; omega)]
    exact rloadRight16_2 old v a h ho hv w
  · rw [show behindN a = 0 from by first | exact h | (unfold aheadN at h; unfold behindN; omega)]
    exact rloadRight16_3 old v a h ho hv w
theorem wl18_0 (old v : Nat) (ho : old < 4294967296) (hv : v < 4294967296) : wdN (byN v 0) (byN v 1) (byN v 2) (byN v 3) = layN false old v 0 := by
  show (v / 16777216 % 256) * 16777216 + (v / 65536 % 256) * 65536 + (v / 256 % 256) * 256 + v / 1 % 256 = old / 4294967296 * 4294967296 + v / 1
  omega
set_option maxHeartbeats 1000000 in
theorem rstoreLeft18_0 (old v : Nat) (a : Int) (ha : aheadN a = 0) (ho : old < 4294967296) (hv : v < 4294967296) (w : World) : Calls Try.prog 18 #[.int .u32 (old : Int), .int .u32 (v : Int), .int .i64 a] w fun e w' => e = .returned (.int .u32 ((layN false old v 0 : Nat) : Int)) ∧ Below w.heap.size w w' := by
  rw [← wl18_0 old v ho hv]
  have K1 : Hid (∀ w, Calls Try.prog 31 #[.int .i64 a] w fun e w' => e = .returned (.int .i64 0) ∧ w' = w) := fun w => by
    have h := place31 a w
    rw [ha] at h
    exact h
  have Kv0 : Hid (∀ w, Calls Try.prog 32 #[.int .u32 (v : Int), .int .i64 0] w fun e w' => e = .returned (.int .u32 ((byN v 0 : Nat) : Int)) ∧ w' = w) := byteOf32 v 0 hv (by decide)
  have Kv1 : Hid (∀ w, Calls Try.prog 32 #[.int .u32 (v : Int), .int .i64 1] w fun e w' => e = .returned (.int .u32 ((byN v 1 : Nat) : Int)) ∧ w' = w) := byteOf32 v 1 hv (by decide)
  have Kv2 : Hid (∀ w, Calls Try.prog 32 #[.int .u32 (v : Int), .int .i64 2] w fun e w' => e = .returned (.int .u32 ((byN v 2 : Nat) : Int)) ∧ w' = w) := byteOf32 v 2 hv (by decide)
  have Kv3 : Hid (∀ w, Calls Try.prog 32 #[.int .u32 (v : Int), .int .i64 3] w fun e w' => e = .returned (.int .u32 ((byN v 3 : Nat) : Int)) ∧ w' = w) := byteOf32 v 3 hv (by decide)
  have KW : Hid (∀ w : World, Calls Try.prog 33 #[.agg #[.int .u32 ((byN v 0 : Nat) : Int), .int .u32 ((byN v 1 : Nat) : Int), .int .u32 ((byN v 2 : Nat) : Int), .int .u32 ((byN v 3 : Nat) : Int)]] w fun e w' => e = .returned (.int .u32 ((wdN (byN v 0) (byN v 1) (byN v 2) (byN v 3) : Nat) : Int)) ∧ Below w.heap.size w w') := word33 _ _ _ _ (by_lt _ _) (by_lt _ _) (by_lt _ _) (by_lt _ _)
  generalize wdN (byN v 0) (byN v 1) (byN v 2) (byN v 3) = z at *
  generalize byN v 0 = b0 at *
  generalize byN v 1 = b1 at *
  generalize byN v 2 = b2 at *
  generalize byN v 3 = b3 at *
  clear ho hv ha
  go_enter Try.func18, Try.ntmps18
  go_wp2_with fail
  refine (K1.out _).mono ?_
  rintro e w1 ⟨rfl, rfl⟩
  go_wp2_with fail
  refine wp_loop_rounds 5 ?_
  rw [rounds_succ]
  go_wp2_with fail
  refine (Kv0.out _).mono ?_
  rintro e w1 ⟨rfl, rfl⟩
  go_wp2_with fail
  rw [rounds_succ]
  go_wp2_with fail
  refine (Kv1.out _).mono ?_
  rintro e w1 ⟨rfl, rfl⟩
  go_wp2_with fail
  rw [rounds_succ]
  go_wp2_with fail
  refine (Kv2.out _).mono ?_
  rintro e w1 ⟨rfl, rfl⟩
  go_wp2_with fail
  rw [rounds_succ]
  go_wp2_with fail
  refine (Kv3.out _).mono ?_
  rintro e w1 ⟨rfl, rfl⟩
  go_wp2_with fail
  rw [rounds_succ]
  go_wp2_with fail
  refine (KW.out _).mono ?_
  rintro e w1 ⟨rfl, hb⟩
  go_wp2
  go_ret
  exact ⟨rfl, below_tr ((Below.refl _ _).alloc (Nat.le_refl _) _) hb⟩
theorem wl18_1 (old v : Nat) (ho : old < 4294967296) (hv : v < 4294967296) : wdN (byN old 0) (byN v 0) (byN v 1) (byN v 2) = layN false old v 1 := by
  show (old / 16777216 % 256) * 16777216 + (v / 16777216 % 256) * 65536 + (v / 65536 % 256) * 256 + v / 256 % 256 = old / 16777216 * 16777216 + v / 256
  omega
set_option maxHeartbeats 1000000 in
theorem rstoreLeft18_1 (old v : Nat) (a : Int) (ha : aheadN a = 1) (ho : old < 4294967296) (hv : v < 4294967296) (w : World) : Calls Try.prog 18 #[.int .u32 (old : Int), .int .u32 (v : Int), .int .i64 a] w fun e w' => e = .returned (.int .u32 ((layN false old v 1 : Nat) : Int)) ∧ Below w.heap.size w w' := by
  rw [← wl18_1 old v ho hv]
  have K1 : Hid (∀ w, Calls Try.prog 31 #[.int .i64 a] w fun e w' => e = .returned (.int .i64 1) ∧ w' = w) := fun w => by
    have h := place31 a w
    rw [ha] at h
    exact h
  have Kold0 : Hid (∀ w, Calls Try.prog 32 #[.int .u32 (old : Int), .int .i64 0] w fun e w' => e = .returned (.int .u32 ((byN old 0 : Nat) : Int)) ∧ w' = w) := byteOf32 old 0 ho (by decide)
  have Kv0 : Hid (∀ w, Calls Try.prog 32 #[.int .u32 (v : Int), .int .i64 0] w fun e w' => e = .returned (.int .u32 ((byN v 0 : Nat) : Int)) ∧ w' = w) := byteOf32 v 0 hv (by decide)
  have Kv1 : Hid (∀ w, Calls Try.prog 32 #[.int .u32 (v : Int), .int .i64 1] w fun e w' => e = .returned (.int .u32 ((byN v 1 : Nat) : Int)) ∧ w' = w) := byteOf32 v 1 hv (by decide)
  have Kv2 : Hid (∀ w, Calls Try.prog 32 #[.int .u32 (v : Int), .int .i64 2] w fun e w' => e = .returned (.int .u32 ((byN v 2 : Nat) : Int)) ∧ w' = w) := byteOf32 v 2 hv (by decide)
  have KW : Hid (∀ w : World, Calls Try.prog 33 #[.agg #[.int .u32 ((byN old 0 : Nat) : Int), .int .u32 ((byN v 0 : Nat) : Int), .int .u32 ((byN v 1 : Nat) : Int), .int .u32 ((byN v 2 : Nat) : Int)]] w fun e w' => e = .returned (.int .u32 ((wdN (byN old 0) (byN v 0) (byN v 1) (byN v 2) : Nat) : Int)) ∧ Below w.heap.size w w') := word33 _ _ _ _ (by_lt _ _) (by_lt _ _) (by_lt _ _) (by_lt _ _)
  generalize wdN (byN old 0) (byN v 0) (byN v 1) (byN v 2) = z at *
  generalize byN old 0 = b0 at *
  generalize byN v 0 = b1 at *
  generalize byN v 1 = b2 at *
  generalize byN v 2 = b3 at *
  clear ho hv ha
  go_enter Try.func18, Try.ntmps18
  go_wp2_with fail
  refine (K1.out _).mono ?_
  rintro e w1 ⟨rfl, rfl⟩
  go_wp2_with fail
  refine wp_loop_rounds 5 ?_
  rw [rounds_succ]
  go_wp2_with fail
  refine (Kold0.out _).mono ?_
  rintro e w1 ⟨rfl, rfl⟩
  go_wp2_with fail
  rw [rounds_succ]
  go_wp2_with fail
  refine (Kv0.out _).mono ?_
  rintro e w1 ⟨rfl, rfl⟩
  go_wp2_with fail
  rw [rounds_succ]
  go_wp2_with fail
  refine (Kv1.out _).mono ?_
  rintro e w1 ⟨rfl, rfl⟩
  go_wp2_with fail
  rw [rounds_succ]
  go_wp2_with fail
  refine (Kv2.out _).mono ?_
  rintro e w1 ⟨rfl, rfl⟩
  go_wp2_with fail
  rw [rounds_succ]
  go_wp2_with fail
  refine (KW.out _).mono ?_
  rintro e w1 ⟨rfl, hb⟩
  go_wp2
  go_ret
  exact ⟨rfl, below_tr ((Below.refl _ _).alloc (Nat.le_refl _) _) hb⟩
theorem wl18_2 (old v : Nat) (ho : old < 4294967296) (hv : v < 4294967296) : wdN (byN old 0) (byN old 1) (byN v 0) (byN v 1) = layN false old v 2 := by
  show (old / 16777216 % 256) * 16777216 + (old / 65536 % 256) * 65536 + (v / 16777216 % 256) * 256 + v / 65536 % 256 = old / 65536 * 65536 + v / 65536
  omega
set_option maxHeartbeats 1000000 in
theorem rstoreLeft18_2 (old v : Nat) (a : Int) (ha : aheadN a = 2) (ho : old < 4294967296) (hv : v < 4294967296) (w : World) : Calls Try.prog 18 #[.int .u32 (old : Int), .int .u32 (v : Int), .int .i64 a] w fun e w' => e = .returned (.int .u32 ((layN false old v 2 : Nat) : Int)) ∧ Below w.heap.size w w' := by
  rw [← wl18_2 old v ho hv]
  have K1 : Hid (∀ w, Calls Try.prog 31 #[.int .i64 a] w fun e w' => e = .returned (.int .i64 2) ∧ w' = w) := fun w => by
    have h := place31 a w
    rw [ha] at h
    exact h
  have Kold0 : Hid (∀ w, Calls Try.prog 32 #[.int .u32 (old : Int), .int .i64 0] w fun e w' => e = .returned (.int .u32 ((byN old 0 : Nat) : Int)) ∧ w' = w) := byteOf32 old 0 ho (by decide)
  have Kold1 : Hid (∀ w, Calls Try.prog 32 #[.int .u32 (old : Int), .int .i64 1] w fun e w' => e = .returned (.int .u32 ((byN old 1 : Nat) : Int)) ∧ w' = w) := byteOf32 old 1 ho (by decide)
  have Kv0 : Hid (∀ w, Calls Try.prog 32 #[.int .u32 (v : Int), .int .i64 0] w fun e w' => e = .returned (.int .u32 ((byN v 0 : Nat) : Int)) ∧ w' = w) := byteOf32 v 0 hv (by decide)
  have Kv1 : Hid (∀ w, Calls Try.prog 32 #[.int .u32 (v : Int), .int .i64 1] w fun e w' => e = .returned (.int .u32 ((byN v 1 : Nat) : Int)) ∧ w' = w) := byteOf32 v 1 hv (by decide)
  have KW : Hid (∀ w : World, Calls Try.prog 33 #[.agg #[.int .u32 ((byN old 0 : Nat) : Int), .int .u32 ((byN old 1 : Nat) : Int), .int .u32 ((byN v 0 : Nat) : Int), .int .u32 ((byN v 1 : Nat) : Int)]] w fun e w' => e = .returned (.int .u32 ((wdN (byN old 0) (byN old 1) (byN v 0) (byN v 1) : Nat) : Int)) ∧ Below w.heap.size w w') := word33 _ _ _ _ (by_lt _ _) (by_lt _ _) (by_lt _ _) (by_lt _ _)
  generalize wdN (byN old 0) (byN old 1) (byN v 0) (byN v 1) = z at *
  generalize byN old 0 = b0 at *
  generalize byN old 1 = b1 at *
  generalize byN v 0 = b2 at *
  generalize byN v 1 = b3 at *
  clear ho hv ha
  go_enter Try.func18, Try.ntmps18
  go_wp2_with fail
  refine (K1.out _).mono ?_
  rintro e w1 ⟨rfl, rfl⟩
  go_wp2_with fail
  refine wp_loop_rounds 5 ?_
  rw [rounds_succ]
  go_wp2_with fail
  refine (Kold0.out _).mono ?_
  rintro e w1 ⟨rfl, rfl⟩
  go_wp2_with fail
  rw [rounds_succ]
  go_wp2_with fail
  refine (Kold1.out _).mono ?_
  rintro e w1 ⟨rfl, rfl⟩
  go_wp2_with fail
  rw [rounds_succ]
  go_wp2_with fail
  refine (Kv0.out _).mono ?_
  rintro e w1 ⟨rfl, rfl⟩
  go_wp2_with fail
  rw [rounds_succ]
  go_wp2_with fail
  refine (Kv1.out _).mono ?_
  rintro e w1 ⟨rfl, rfl⟩
  go_wp2_with fail
  rw [rounds_succ]
  go_wp2_with fail
  refine (KW.out _).mono ?_
  rintro e w1 ⟨rfl, hb⟩
  go_wp2
  go_ret
  exact ⟨rfl, below_tr ((Below.refl _ _).alloc (Nat.le_refl _) _) hb⟩
theorem wl18_3 (old v : Nat) (ho : old < 4294967296) (hv : v < 4294967296) : wdN (byN old 0) (byN old 1) (byN old 2) (byN v 0) = layN false old v 3 := by
  show (old / 16777216 % 256) * 16777216 + (old / 65536 % 256) * 65536 + (old / 256 % 256) * 256 + v / 16777216 % 256 = old / 256 * 256 + v / 16777216
  omega
set_option maxHeartbeats 1000000 in
theorem rstoreLeft18_3 (old v : Nat) (a : Int) (ha : aheadN a = 3) (ho : old < 4294967296) (hv : v < 4294967296) (w : World) : Calls Try.prog 18 #[.int .u32 (old : Int), .int .u32 (v : Int), .int .i64 a] w fun e w' => e = .returned (.int .u32 ((layN false old v 3 : Nat) : Int)) ∧ Below w.heap.size w w' := by
  rw [← wl18_3 old v ho hv]
  have K1 : Hid (∀ w, Calls Try.prog 31 #[.int .i64 a] w fun e w' => e = .returned (.int .i64 3) ∧ w' = w) := fun w => by
    have h := place31 a w
    rw [ha] at h
    exact h
  have Kold0 : Hid (∀ w, Calls Try.prog 32 #[.int .u32 (old : Int), .int .i64 0] w fun e w' => e = .returned (.int .u32 ((byN old 0 : Nat) : Int)) ∧ w' = w) := byteOf32 old 0 ho (by decide)
  have Kold1 : Hid (∀ w, Calls Try.prog 32 #[.int .u32 (old : Int), .int .i64 1] w fun e w' => e = .returned (.int .u32 ((byN old 1 : Nat) : Int)) ∧ w' = w) := byteOf32 old 1 ho (by decide)
  have Kold2 : Hid (∀ w, Calls Try.prog 32 #[.int .u32 (old : Int), .int .i64 2] w fun e w' => e = .returned (.int .u32 ((byN old 2 : Nat) : Int)) ∧ w' = w) := byteOf32 old 2 ho (by decide)
  have Kv0 : Hid (∀ w, Calls Try.prog 32 #[.int .u32 (v : Int), .int .i64 0] w fun e w' => e = .returned (.int .u32 ((byN v 0 : Nat) : Int)) ∧ w' = w) := byteOf32 v 0 hv (by decide)
  have KW : Hid (∀ w : World, Calls Try.prog 33 #[.agg #[.int .u32 ((byN old 0 : Nat) : Int), .int .u32 ((byN old 1 : Nat) : Int), .int .u32 ((byN old 2 : Nat) : Int), .int .u32 ((byN v 0 : Nat) : Int)]] w fun e w' => e = .returned (.int .u32 ((wdN (byN old 0) (byN old 1) (byN old 2) (byN v 0) : Nat) : Int)) ∧ Below w.heap.size w w') := word33 _ _ _ _ (by_lt _ _) (by_lt _ _) (by_lt _ _) (by_lt _ _)
  generalize wdN (byN old 0) (byN old 1) (byN old 2) (byN v 0) = z at *
  generalize byN old 0 = b0 at *
  generalize byN old 1 = b1 at *
  generalize byN old 2 = b2 at *
  generalize byN v 0 = b3 at *
  clear ho hv ha
  go_enter Try.func18, Try.ntmps18
  go_wp2_with fail
  refine (K1.out _).mono ?_
  rintro e w1 ⟨rfl, rfl⟩
  go_wp2_with fail
  refine wp_loop_rounds 5 ?_
  rw [rounds_succ]
  go_wp2_with fail
  refine (Kold0.out _).mono ?_
  rintro e w1 ⟨rfl, rfl⟩
  go_wp2_with fail
  rw [rounds_succ]
  go_wp2_with fail
  refine (Kold1.out _).mono ?_
  rintro e w1 ⟨rfl, rfl⟩
  go_wp2_with fail
  rw [rounds_succ]
  go_wp2_with fail
  refine (Kold2.out _).mono ?_
  rintro e w1 ⟨rfl, rfl⟩
  go_wp2_with fail
  rw [rounds_succ]
  go_wp2_with fail
  refine (Kv0.out _).mono ?_
  rintro e w1 ⟨rfl, rfl⟩
  go_wp2_with fail
  rw [rounds_succ]
  go_wp2_with fail
  refine (KW.out _).mono ?_
  rintro e w1 ⟨rfl, hb⟩
  go_wp2
  go_ret
  exact ⟨rfl, below_tr ((Below.refl _ _).alloc (Nat.le_refl _) _) hb⟩
theorem rstoreLeft18 (old v : Nat) (a : Int) (ho : old < 4294967296) (hv : v < 4294967296) (w : World) : Calls Try.prog 18 #[.int .u32 (old : Int), .int .u32 (v : Int), .int .i64 a] w fun e w' => e = .returned (.int .u32 ((layN false old v (aheadN a) : Nat) : Int)) ∧ Below w.heap.size w w' := by
  have h : aheadN a = 0 ∨ aheadN a = 1 ∨ aheadN a = 2 ∨ aheadN a = 3 := by unfold aheadN; omega
  rcases h with h | h | h | h
  · rw [show aheadN a = 0 from by first | exact h | (unfold aheadN at h; unfold behindN; omega)]
    exact rstoreLeft18_0 old v a h ho hv w
  · rw [show aheadN a = 1 from by first | exact h | (unfold aheadN at h; unfold behindN; omega)]
    exact rstoreLeft18_1 old v a h ho hv w
  · rw [show aheadN a = 2 from by first | exact h | (unfold aheadN at h; unfold behindN; omega)]
    exact rstoreLeft18_2 old v a h ho hv w
  · rw [show aheadN a = 3 from by first | exact h | (unfold aheadN at h; unfold behindN; omega)]
    exact rstoreLeft18_3 old v a h ho hv w
theorem wl20_0 (old v : Nat) (ho : old < 4294967296) (hv : v < 4294967296) : wdN (byN v 3) (byN old 1) (byN old 2) (byN old 3) = layN true old v 3 := by
  show (v / 1 % 256) * 16777216 + (old / 65536 % 256) * 65536 + (old / 256 % 256) * 256 + old / 1 % 256 = v * 16777216 % 4294967296 + old % 16777216
  omega
set_option maxHeartbeats 1000000 in
theorem rstoreRight20_0 (old v : Nat) (a : Int) (ha : aheadN a = 0) (ho : old < 4294967296) (hv : v < 4294967296) (w : World) : Calls Try.prog 20 #[.int .u32 (old : Int), .int .u32 (v : Int), .int .i64 a] w fun e w' => e = .returned (.int .u32 ((layN true old v 3 : Nat) : Int)) ∧ Below w.heap.size w w' := by
  rw [← wl20_0 old v ho hv]
  have K1 : Hid (∀ w, Calls Try.prog 31 #[.int .i64 a] w fun e w' => e = .returned (.int .i64 0) ∧ w' = w) := fun w => by
    have h := place31 a w
    rw [ha] at h
    exact h
  have Kv3 : Hid (∀ w, Calls Try.prog 32 #[.int .u32 (v : Int), .int .i64 3] w fun e w' => e = .returned (.int .u32 ((byN v 3 : Nat) : Int)) ∧ w' = w) := byteOf32 v 3 hv (by decide)
  have Kold1 : Hid (∀ w, Calls Try.prog 32 #[.int .u32 (old : Int), .int .i64 1] w fun e w' => e = .returned (.int .u32 ((byN old 1 : Nat) : Int)) ∧ w' = w) := byteOf32 old 1 ho (by decide)
  have Kold2 : Hid (∀ w, Calls Try.prog 32 #[.int .u32 (old : Int), .int .i64 2] w fun e w' => e = .returned (.int .u32 ((byN old 2 : Nat) : Int)) ∧ w' = w) := byteOf32 old 2 ho (by decide)
  have Kold3 : Hid (∀ w, Calls Try.prog 32 #[.int .u32 (old : Int), .int .i64 3] w fun e w' => e = .returned (.int .u32 ((byN old 3 : Nat) : Int)) ∧ w' = w) := byteOf32 old 3 ho (by decide)
  have KW : Hid (∀ w : World, Calls Try.prog 33 #[.agg #[.int .u32 ((byN v 3 : Nat) : Int), .int .u32 ((byN old 1 : Nat) : Int), .int .u32 ((byN old 2 : Nat) : Int), .int .u32 ((byN old 3 : Nat) : Int)]] w fun e w' => e = .returned (.int .u32 ((wdN (byN v 3) (byN old 1) (byN old 2) (byN old 3) : Nat) : Int)) ∧ Below w.heap.size w w') := word33 _ _ _ _ (by_lt _ _) (by_lt _ _) (by_lt _ _) (by_lt _ _)
  generalize wdN (byN v 3) (byN old 1) (byN old 2) (byN old 3) = z at *
  generalize byN v 3 = b0 at *
  generalize byN old 1 = b1 at *
  generalize byN old 2 = b2 at *
  generalize byN old 3 = b3 at *
  clear ho hv ha
  go_enter Try.func20, Try.ntmps20
  go_wp2_with fail
  refine (K1.out _).mono ?_
  rintro e w1 ⟨rfl, rfl⟩
  go_wp2_with fail
  refine wp_loop_rounds 5 ?_
  rw [rounds_succ]
  go_wp2_with fail
  refine (Kv3.out _).mono ?_
  rintro e w1 ⟨rfl, rfl⟩
  go_wp2_with fail
  rw [rounds_succ]
  go_wp2_with fail
  refine (Kold1.out _).mono ?_
  rintro e w1 ⟨rfl, rfl⟩
  go_wp2_with fail
  rw [rounds_succ]
  go_wp2_with fail
  refine (Kold2.out _).mono ?_
  rintro e w1 ⟨rfl, rfl⟩
  go_wp2_with fail
  rw [rounds_succ]
  go_wp2_with fail
  refine (Kold3.out _).mono ?_
  rintro e w1 ⟨rfl, rfl⟩
  go_wp2_with fail
  rw [rounds_succ]
  go_wp2_with fail
  refine (KW.out _).mono ?_
  rintro e w1 ⟨rfl, hb⟩
  go_wp2
  go_ret
  exact ⟨rfl, below_tr ((Below.refl _ _).alloc (Nat.le_refl _) _) hb⟩
theorem wl20_1 (old v : Nat) (ho : old < 4294967296) (hv : v < 4294967296) : wdN (byN v 2) (byN v 3) (byN old 2) (byN old 3) = layN true old v 2 := by
  show (v / 256 % 256) * 16777216 + (v / 1 % 256) * 65536 + (old / 256 % 256) * 256 + old / 1 % 256 = v * 65536 % 4294967296 + old % 65536
  omega
set_option maxHeartbeats 1000000 in
theorem rstoreRight20_1 (old v : Nat) (a : Int) (ha : aheadN a = 1) (ho : old < 4294967296) (hv : v < 4294967296) (w : World) : Calls Try.prog 20 #[.int .u32 (old : Int), .int .u32 (v : Int), .int .i64 a] w fun e w' => e = .returned (.int .u32 ((layN true old v 2 : Nat) : Int)) ∧ Below w.heap.size w w' := by
  rw [← wl20_1 old v ho hv]
  have K1 : Hid (∀ w, Calls Try.prog 31 #[.int .i64 a] w fun e w' => e = .returned (.int .i64 1) ∧ w' = w) := fun w => by
    have h := place31 a w
    rw [ha] at h
    exact h
  have Kv2 : Hid (∀ w, Calls Try.prog 32 #[.int .u32 (v : Int), .int .i64 2] w fun e w' => e = .returned (.int .u32 ((byN v 2 : Nat) : Int)) ∧ w' = w) := byteOf32 v 2 hv (by decide)
  have Kv3 : Hid (∀ w, Calls Try.prog 32 #[.int .u32 (v : Int), .int .i64 3] w fun e w' => e = .returned (.int .u32 ((byN v 3 : Nat) : Int)) ∧ w' = w) := byteOf32 v 3 hv (by decide)
  have Kold2 : Hid (∀ w, Calls Try.prog 32 #[.int .u32 (old : Int), .int .i64 2] w fun e w' => e = .returned (.int .u32 ((byN old 2 : Nat) : Int)) ∧ w' = w) := byteOf32 old 2 ho (by decide)
  have Kold3 : Hid (∀ w, Calls Try.prog 32 #[.int .u32 (old : Int), .int .i64 3] w fun e w' => e = .returned (.int .u32 ((byN old 3 : Nat) : Int)) ∧ w' = w) := byteOf32 old 3 ho (by decide)
  have KW : Hid (∀ w : World, Calls Try.prog 33 #[.agg #[.int .u32 ((byN v 2 : Nat) : Int), .int .u32 ((byN v 3 : Nat) : Int), .int .u32 ((byN old 2 : Nat) : Int), .int .u32 ((byN old 3 : Nat) : Int)]] w fun e w' => e = .returned (.int .u32 ((wdN (byN v 2) (byN v 3) (byN old 2) (byN old 3) : Nat) : Int)) ∧ Below w.heap.size w w') := word33 _ _ _ _ (by_lt _ _) (by_lt _ _) (by_lt _ _) (by_lt _ _)
  generalize wdN (byN v 2) (byN v 3) (byN old 2) (byN old 3) = z at *
  generalize byN v 2 = b0 at *
  generalize byN v 3 = b1 at *
  generalize byN old 2 = b2 at *
  generalize byN old 3 = b3 at *
  clear ho hv ha
  go_enter Try.func20, Try.ntmps20
  go_wp2_with fail
  refine (K1.out _).mono ?_
  rintro e w1 ⟨rfl, rfl⟩
  go_wp2_with fail
  refine wp_loop_rounds 5 ?_
  rw [rounds_succ]
  go_wp2_with fail
  refine (Kv2.out _).mono ?_
  rintro e w1 ⟨rfl, rfl⟩
  go_wp2_with fail
  rw [rounds_succ]
  go_wp2_with fail
  refine (Kv3.out _).mono ?_
  rintro e w1 ⟨rfl, rfl⟩
  go_wp2_with fail
  rw [rounds_succ]
  go_wp2_with fail
  refine (Kold2.out _).mono ?_
  rintro e w1 ⟨rfl, rfl⟩
  go_wp2_with fail
  rw [rounds_succ]
  go_wp2_with fail
  refine (Kold3.out _).mono ?_
  rintro e w1 ⟨rfl, rfl⟩
  go_wp2_with fail
  rw [rounds_succ]
  go_wp2_with fail
  refine (KW.out _).mono ?_
  rintro e w1 ⟨rfl, hb⟩
  go_wp2
  go_ret
  exact ⟨rfl, below_tr ((Below.refl _ _).alloc (Nat.le_refl _) _) hb⟩
theorem wl20_2 (old v : Nat) (ho : old < 4294967296) (hv : v < 4294967296) : wdN (byN v 1) (byN v 2) (byN v 3) (byN old 3) = layN true old v 1 := by
  show (v / 65536 % 256) * 16777216 + (v / 256 % 256) * 65536 + (v / 1 % 256) * 256 + old / 1 % 256 = v * 256 % 4294967296 + old % 256
  omega
set_option maxHeartbeats 1000000 in
theorem rstoreRight20_2 (old v : Nat) (a : Int) (ha : aheadN a = 2) (ho : old < 4294967296) (hv : v < 4294967296) (w : World) : Calls Try.prog 20 #[.int .u32 (old : Int), .int .u32 (v : Int), .int .i64 a] w fun e w' => e = .returned (.int .u32 ((layN true old v 1 : Nat) : Int)) ∧ Below w.heap.size w w' := by
  rw [← wl20_2 old v ho hv]
  have K1 : Hid (∀ w, Calls Try.prog 31 #[.int .i64 a] w fun e w' => e = .returned (.int .i64 2) ∧ w' = w) := fun w => by
    have h := place31 a w
    rw [ha] at h
    exact h
  have Kv1 : Hid (∀ w, Calls Try.prog 32 #[.int .u32 (v : Int), .int .i64 1] w fun e w' => e = .returned (.int .u32 ((byN v 1 : Nat) : Int)) ∧ w' = w) := byteOf32 v 1 hv (by decide)
  have Kv2 : Hid (∀ w, Calls Try.prog 32 #[.int .u32 (v : Int), .int .i64 2] w fun e w' => e = .returned (.int .u32 ((byN v 2 : Nat) : Int)) ∧ w' = w) := byteOf32 v 2 hv (by decide)
  have Kv3 : Hid (∀ w, Calls Try.prog 32 #[.int .u32 (v : Int), .int .i64 3] w fun e w' => e = .returned (.int .u32 ((byN v 3 : Nat) : Int)) ∧ w' = w) := byteOf32 v 3 hv (by decide)
  have Kold3 : Hid (∀ w, Calls Try.prog 32 #[.int .u32 (old : Int), .int .i64 3] w fun e w' => e = .returned (.int .u32 ((byN old 3 : Nat) : Int)) ∧ w' = w) := byteOf32 old 3 ho (by decide)
  have KW : Hid (∀ w : World, Calls Try.prog 33 #[.agg #[.int .u32 ((byN v 1 : Nat) : Int), .int .u32 ((byN v 2 : Nat) : Int), .int .u32 ((byN v 3 : Nat) : Int), .int .u32 ((byN old 3 : Nat) : Int)]] w fun e w' => e = .returned (.int .u32 ((wdN (byN v 1) (byN v 2) (byN v 3) (byN old 3) : Nat) : Int)) ∧ Below w.heap.size w w') := word33 _ _ _ _ (by_lt _ _) (by_lt _ _) (by_lt _ _) (by_lt _ _)
  generalize wdN (byN v 1) (byN v 2) (byN v 3) (byN old 3) = z at *
  generalize byN v 1 = b0 at *
  generalize byN v 2 = b1 at *
  generalize byN v 3 = b2 at *
  generalize byN old 3 = b3 at *
  clear ho hv ha
  go_enter Try.func20, Try.ntmps20
  go_wp2_with fail
  refine (K1.out _).mono ?_
  rintro e w1 ⟨rfl, rfl⟩
  go_wp2_with fail
  refine wp_loop_rounds 5 ?_
  rw [rounds_succ]
  go_wp2_with fail
  refine (Kv1.out _).mono ?_
  rintro e w1 ⟨rfl, rfl⟩
  go_wp2_with fail
  rw [rounds_succ]
  go_wp2_with fail
  refine (Kv2.out _).mono ?_
  rintro e w1 ⟨rfl, rfl⟩
  go_wp2_with fail
  rw [rounds_succ]
  go_wp2_with fail
  refine (Kv3.out _).mono ?_
  rintro e w1 ⟨rfl, rfl⟩
  go_wp2_with fail
  rw [rounds_succ]
  go_wp2_with fail
  refine (Kold3.out _).mono ?_
  rintro e w1 ⟨rfl, rfl⟩
  go_wp2_with fail
  rw [rounds_succ]
  go_wp2_with fail
  refine (KW.out _).mono ?_
  rintro e w1 ⟨rfl, hb⟩
  go_wp2
  go_ret
  exact ⟨rfl, below_tr ((Below.refl _ _).alloc (Nat.le_refl _) _) hb⟩
theorem wl20_3 (old v : Nat) (ho : old < 4294967296) (hv : v < 4294967296) : wdN (byN v 0) (byN v 1) (byN v 2) (byN v 3) = layN true old v 0 := by
  show (v / 16777216 % 256) * 16777216 + (v / 65536 % 256) * 65536 + (v / 256 % 256) * 256 + v / 1 % 256 = v * 1 % 4294967296 + old % 1
  omega
set_option maxHeartbeats 1000000 in
theorem rstoreRight20_3 (old v : Nat) (a : Int) (ha : aheadN a = 3) (ho : old < 4294967296) (hv : v < 4294967296) (w : World) : Calls Try.prog 20 #[.int .u32 (old : Int), .int .u32 (v : Int), .int .i64 a] w fun e w' => e = .returned (.int .u32 ((layN true old v 0 : Nat) : Int)) ∧ Below w.heap.size w w' := by
  rw [← wl20_3 old v ho hv]
  have K1 : Hid (∀ w, Calls Try.prog 31 #[.int .i64 a] w fun e w' => e = .returned (.int .i64 3) ∧ w' = w) := fun w => by
    have h := place31 a w
    rw [ha] at h
    exact h
  have Kv0 : Hid (∀ w, Calls Try.prog 32 #[.int .u32 (v : Int), .int .i64 0] w fun e w' => e = .returned (.int .u32 ((byN v 0 : Nat) : Int)) ∧ w' = w) := byteOf32 v 0 hv (by decide)
  have Kv1 : Hid (∀ w, Calls Try.prog 32 #[.int .u32 (v : Int), .int .i64 1] w fun e w' => e = .returned (.int .u32 ((byN v 1 : Nat) : Int)) ∧ w' = w) := byteOf32 v 1 hv (by decide)
  have Kv2 : Hid (∀ w, Calls Try.prog 32 #[.int .u32 (v : Int), .int .i64 2] w fun e w' => e = .returned (.int .u32 ((byN v 2 : Nat) : Int)) ∧ w' = w) := byteOf32 v 2 hv (by decide)
  have Kv3 : Hid (∀ w, Calls Try.prog 32 #[.int .u32 (v : Int), .int .i64 3] w fun e w' => e = .returned (.int .u32 ((byN v 3 : Nat) : Int)) ∧ w' = w) := byteOf32 v 3 hv (by decide)
  have KW : Hid (∀ w : World, Calls Try.prog 33 #[.agg #[.int .u32 ((byN v 0 : Nat) : Int), .int .u32 ((byN v 1 : Nat) : Int), .int .u32 ((byN v 2 : Nat) : Int), .int .u32 ((byN v 3 : Nat) : Int)]] w fun e w' => e = .returned (.int .u32 ((wdN (byN v 0) (byN v 1) (byN v 2) (byN v 3) : Nat) : Int)) ∧ Below w.heap.size w w') := word33 _ _ _ _ (by_lt _ _) (by_lt _ _) (by_lt _ _) (by_lt _ _)
  generalize wdN (byN v 0) (byN v 1) (byN v 2) (byN v 3) = z at *
  generalize byN v 0 = b0 at *
  generalize byN v 1 = b1 at *
  generalize byN v 2 = b2 at *
  generalize byN v 3 = b3 at *
  clear ho hv ha
  go_enter Try.func20, Try.ntmps20
  go_wp2_with fail
  refine (K1.out _).mono ?_
  rintro e w1 ⟨rfl, rfl⟩
  go_wp2_with fail
  refine wp_loop_rounds 5 ?_
  rw [rounds_succ]
  go_wp2_with fail
  refine (Kv0.out _).mono ?_
  rintro e w1 ⟨rfl, rfl⟩
  go_wp2_with fail
  rw [rounds_succ]
  go_wp2_with fail
  refine (Kv1.out _).mono ?_
  rintro e w1 ⟨rfl, rfl⟩
  go_wp2_with fail
  rw [rounds_succ]
  go_wp2_with fail
  refine (Kv2.out _).mono ?_
  rintro e w1 ⟨rfl, rfl⟩
  go_wp2_with fail
  rw [rounds_succ]
  go_wp2_with fail
  refine (Kv3.out _).mono ?_
  rintro e w1 ⟨rfl, rfl⟩
  go_wp2_with fail
  rw [rounds_succ]
  go_wp2_with fail
  refine (KW.out _).mono ?_
  rintro e w1 ⟨rfl, hb⟩
  go_wp2
  go_ret
  exact ⟨rfl, below_tr ((Below.refl _ _).alloc (Nat.le_refl _) _) hb⟩
theorem rstoreRight20 (old v : Nat) (a : Int) (ho : old < 4294967296) (hv : v < 4294967296) (w : World) : Calls Try.prog 20 #[.int .u32 (old : Int), .int .u32 (v : Int), .int .i64 a] w fun e w' => e = .returned (.int .u32 ((layN true old v (behindN a) : Nat) : Int)) ∧ Below w.heap.size w w' := by
  have h : aheadN a = 0 ∨ aheadN a = 1 ∨ aheadN a = 2 ∨ aheadN a = 3 := by unfold aheadN; omega
  rcases h with h | h | h | h
  · rw [show behindN a = 3 from by first | exact h | (unfold aheadN at h; unfold behindN; omega)]
    exact rstoreRight20_0 old v a h ho hv w
  · rw [show behindN a = 2 from by first | exact h | (unfold aheadN at h; unfold behindN; omega)]
    exact rstoreRight20_1 old v a h ho hv w
  · rw [show behindN a = 1 from by first | exact h | (unfold aheadN at h; unfold behindN; omega)]
    exact rstoreRight20_2 old v a h ho hv w
  · rw [show behindN a = 0 from by first | exact h | (unfold aheadN at h; unfold behindN; omega)]
    exact rstoreRight20_3 old v a h ho hv w
end Go.Proofs.Ytbdhgfjhgfohcaa
