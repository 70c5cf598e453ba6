/- What is proved here: how two numbers compare, by the program and by the document. -/
import Derived.Test.YtlchjfdnkplmmaaClass
import Derived.Test.YtlchjfdnkplmmaaCaught
import Derived.Deep.RegionHeld
namespace Go.Proofs.Ytlchjfdnkplmmaa
open Go.RowKit

def orderF (a b : Nat) : Int := if rank a < rank b then -1 else if rank b < rank a then 1 else 0
def orderN (a b : Nat) : Int := if isNone a ∨ isNone b then 2 else orderF a b

theorem ord_lt (a b : Nat) (ha : ¬ isNone a) (hb : ¬ isNone b) : (FloatKind.f64.format.order a b == some .lt) = decide (rank a < rank b) := by
  change (Ieee.double.order a b == some .lt) = _
  rw [order_rank a b ha hb, cmp_def]
  by_cases h1 : rank a < rank b
  · simp [h1]
  · by_cases h2 : rank a = rank b <;> simp [h1, h2]
theorem ord_gt (a b : Nat) (ha : ¬ isNone a) (hb : ¬ isNone b) : (FloatKind.f64.format.order a b == some .gt) = decide (rank b < rank a) := by
  change (Ieee.double.order a b == some .gt) = _
  rw [order_rank a b ha hb, cmp_def]
  by_cases h1 : rank a < rank b
  · simp [h1]; omega
  · by_cases h2 : rank a = rank b
    · simp [h2]
    · simp [h1, h2]; omega
theorem ord_ge (a b : Nat) (ha : ¬ isNone a) (hb : ¬ isNone b) : (FloatKind.f64.format.order a b == some .gt || FloatKind.f64.format.order a b == some .eq) = decide (rank b ≤ rank a) := by
  change (Ieee.double.order a b == some .gt || Ieee.double.order a b == some .eq) = _
  rw [order_rank a b ha hb, cmp_def]
  by_cases h1 : rank a < rank b
  · simp [h1]
  · by_cases h2 : rank a = rank b
    · simp [h2]
    · simp [h1, h2]; omega
theorem ord_self (a : Nat) : (FloatKind.f64.format.order a a != some .eq) = decide (isNone a) := by
  change (Ieee.double.order a a != some .eq) = _
  by_cases h : isNone a
  · rw [order_none a a (Or.inl h)]; simp [h]
  · rw [order_rank a a h h, cmp_def]; simp [h]
theorem isnan_no (a : Nat) (h : ¬ isNone a) (w : World) :
    Calls Try.prog 51 #[.float .f64 a] w fun e w' => e = .returned (.bool false) ∧ w' = w := by
  have ho := ord_self a
  rw [decide_eq_false h] at ho
  go_enter Try.func51, Try.ntmps51
  go_wp2
  go_ret
  exact ⟨rfl, rfl⟩
theorem compare_any (a b : Nat) (ha : ¬ isNone a) (hb : ¬ isNone b) (w : World) :
    Calls Try.prog 32 #[.float .f64 a, .float .f64 b] w fun e w' => e = .returned (.int .i64 (orderF a b)) ∧ w' = w := by
  have h1 := ord_lt a b ha hb
  have h2 := ord_gt a b ha hb
  go_enter Try.func32, Try.ntmps32
  go_wp2_with fail
  refine (isnan_no a ha _).mono ?_
  rintro e w1 ⟨rfl, rfl⟩
  go_wp2_with fail
  refine (isnan_no b hb _).mono ?_
  rintro e w1 ⟨rfl, rfl⟩
  go_wp2
  all_goals go_ret
  all_goals refine ⟨ret_int ?_, rfl⟩
  all_goals
    simp only [h1, h2] at *
    unfold orderF; (repeat' split) <;> omega

theorem none_class (a : Nat) : isNone a ↔ classN a = 4 := by
  unfold isNone classN infR; (repeat' split) <;> omega
theorem class_le (a : Nat) : classN a ≤ 4 := by unfold classN; (repeat' split) <;> omega

theorem class_num (a : Nat) (h : ¬ isNone a) : (classN a : Int) ≤ 3 := by
  have := class_le a
  rw [none_class] at h; omega
theorem class_none (a : Nat) (h : isNone a) : (3 : Int) < (classN a : Int) := by
  rw [none_class] at h; omega

set_option maxHeartbeats 1000000 in
theorem order1_ok (p q : Addr) (a b : Nat) (hA : a < 18446744073709551616) (hB : b < 18446744073709551616) (ha : ¬ isNone a) (hb : ¬ isNone b) (w : World)
    (hp : w.cell? p = some (.int .u64 (a : Int))) (hq : w.cell? q = some (.int .u64 (b : Int))) :
    Calls Try.prog 31 #[.pointer (some p), .pointer (some q)] w fun e w' => e = .returned (.int .i64 (orderF a b)) ∧ Below w.heap.size w w' := by
  have K1 : Hid (∀ w, Calls Try.prog 33 #[.int .u64 (a : Int), .int .i64 3] w fun e w' => e = .returned (.float .f64 a) ∧ w' = w) := fun w => number_ok a hA 3 (class_num a ha) w
  have K2 : Hid (∀ w, Calls Try.prog 33 #[.int .u64 (b : Int), .int .i64 3] w fun e w' => e = .returned (.float .f64 b) ∧ w' = w) := fun w => number_ok b hB 3 (class_num b hb) w
  have K3 : Hid (∀ w, Calls Try.prog 32 #[.float .f64 a, .float .f64 b] w fun e w' => e = .returned (.int .i64 (orderF a b)) ∧ w' = w) := fun w => compare_any a b ha hb w
  generalize orderF a b = o at *
  clear hA hB ha hb
  go_enter Try.func31, Try.ntmps31
  go_wp2
  refine wp_region_held_drew (S := fun w' => w'.cell? p = some (.int .u64 (a : Int)) ∧ w'.cell? q = some (.int .u64 (b : Int))) (by kernel_rfl) ⟨by simp [hp], by simp [hq]⟩ (fun hS => ?_)
  refine wpAnyH_take (i := 0) (v := .int .u64 (a : Int)) rfl (by kernel_rfl) (by kernel_rfl) (by kernel_rfl) (fun _ _ _ h => h) (Or.inl ⟨by rfl, fun w hSw => ?_⟩) hS ?_
  · dsimp only at hSw; go_simp
  simp only [Act.put]
  refine wpAnyH_take (i := 2) (v := .int .u64 (b : Int)) rfl (by kernel_rfl) (by kernel_rfl) (by kernel_rfl) (fun _ _ _ h => h) (Or.inl ⟨by rfl, fun w hSw => ?_⟩) hS ?_
  · dsimp only at hSw; go_simp
  simp only [Act.put]
  refine wpAnyH_ready (rs := [1]) (by kernel_rfl) (by simp) (AllReadyH.cons rfl (fun K hK => ?_) AllReadyH.nil)
  go_simp
  go_wp2_with fail
  refine (K1.out _).mono ?_
  rintro e w1 ⟨rfl, rfl⟩
  go_wp2_with fail
  refine hK.out _ _ hS (fun _ => ?_)
  clear hK K
  refine wpAnyH_ready (rs := [3]) (by kernel_rfl) (by simp) (AllReadyH.cons rfl (fun K hK => ?_) AllReadyH.nil)
  go_simp
  go_wp2_with fail
  refine (K2.out _).mono ?_
  rintro e w1 ⟨rfl, rfl⟩
  go_wp2_with fail
  refine hK.out _ _ hS (fun _ => ?_)
  clear hK K
  refine wpAnyH_ready (rs := [4]) (by kernel_rfl) (by simp) (AllReadyH.cons rfl (fun K hK => ?_) AllReadyH.nil)
  go_simp
  go_wp2_with fail
  refine (K3.out _).mono ?_
  rintro e w1 ⟨rfl, rfl⟩
  go_wp2_with fail
  refine hK.out _ _ hS (fun _ => ?_)
  clear hK K
  refine wpAnyH_ready (rs := [5]) (by kernel_rfl) (by simp) (AllReadyH.cons rfl (fun K hK => ?_) AllReadyH.nil)
  go_simp
  refine hK.out _ _ hS (fun _ => ?_)
  clear hK K
  refine wpAnyH_done (by kernel_rfl) ?_ _
  go_wp2
  go_ret
  exact ⟨rfl, (Below.refl _ _).drew⟩
set_option maxHeartbeats 1000000 in
theorem order1_thrown_a (p q : Addr) (a b : Nat) (hA : a < 18446744073709551616) (h : isNone a) (w : World)
    (hp : w.cell? p = some (.int .u64 (a : Int))) (hq : w.cell? q = some (.int .u64 (b : Int))) :
    Calls Try.prog 31 #[.pointer (some p), .pointer (some q)] w fun e w' => (∃ x : Int, e = .panicked (thrown x)) ∧ Below w.heap.size w w' := by
  have K1 : Hid (∀ w, Calls Try.prog 33 #[.int .u64 (a : Int), .int .i64 3] w fun e w' => e = .panicked (thrown a) ∧ w' = w) := fun w => number_thrown a hA 3 (class_none a h) w
  clear hA h
  go_enter Try.func31, Try.ntmps31
  go_wp2
  refine wp_region_held_drew (S := fun w' => w'.cell? p = some (.int .u64 (a : Int)) ∧ w'.cell? q = some (.int .u64 (b : Int))) (by kernel_rfl) ⟨by simp [hp], by simp [hq]⟩ (fun hS => ?_)
  refine wpAnyH_take (i := 0) (v := .int .u64 (a : Int)) rfl (by kernel_rfl) (by kernel_rfl) (by kernel_rfl) (fun _ _ _ h => h) (Or.inl ⟨by rfl, fun w hSw => ?_⟩) hS ?_
  · dsimp only at hSw; go_simp
  simp only [Act.put]
  refine wpAnyH_take (i := 2) (v := .int .u64 (b : Int)) rfl (by kernel_rfl) (by kernel_rfl) (by kernel_rfl) (fun _ _ _ h => h) (Or.inl ⟨by rfl, fun w hSw => ?_⟩) hS ?_
  · dsimp only at hSw; go_simp
  simp only [Act.put]
  refine wpAnyH_ready (rs := [1]) (by kernel_rfl) (by simp) (AllReadyH.cons rfl (fun K hK => ?_) AllReadyH.nil)
  go_simp
  go_wp2_with fail
  refine (K1.out _).mono ?_
  rintro e w1 ⟨rfl, rfl⟩
  go_wp2_with fail
  exact ⟨rfl, ⟨_, rfl⟩, (Below.refl _ _).drew⟩
set_option maxHeartbeats 1000000 in
theorem order1_thrown_b (p q : Addr) (a b : Nat) (hA : a < 18446744073709551616) (hB : b < 18446744073709551616) (ha : ¬ isNone a) (h : isNone b) (w : World)
    (hp : w.cell? p = some (.int .u64 (a : Int))) (hq : w.cell? q = some (.int .u64 (b : Int))) :
    Calls Try.prog 31 #[.pointer (some p), .pointer (some q)] w fun e w' => (∃ x : Int, e = .panicked (thrown x)) ∧ Below w.heap.size w w' := by
  have K1 : Hid (∀ w, Calls Try.prog 33 #[.int .u64 (a : Int), .int .i64 3] w fun e w' => e = .returned (.float .f64 a) ∧ w' = w) := fun w => number_ok a hA 3 (class_num a ha) w
  have K2 : Hid (∀ w, Calls Try.prog 33 #[.int .u64 (b : Int), .int .i64 3] w fun e w' => e = .panicked (thrown b) ∧ w' = w) := fun w => number_thrown b hB 3 (class_none b h) w
  clear hA hB ha h
  go_enter Try.func31, Try.ntmps31
  go_wp2
  refine wp_region_held_drew (S := fun w' => w'.cell? p = some (.int .u64 (a : Int)) ∧ w'.cell? q = some (.int .u64 (b : Int))) (by kernel_rfl) ⟨by simp [hp], by simp [hq]⟩ (fun hS => ?_)
  refine wpAnyH_take (i := 0) (v := .int .u64 (a : Int)) rfl (by kernel_rfl) (by kernel_rfl) (by kernel_rfl) (fun _ _ _ h => h) (Or.inl ⟨by rfl, fun w hSw => ?_⟩) hS ?_
  · dsimp only at hSw; go_simp
  simp only [Act.put]
  refine wpAnyH_take (i := 2) (v := .int .u64 (b : Int)) rfl (by kernel_rfl) (by kernel_rfl) (by kernel_rfl) (fun _ _ _ h => h) (Or.inl ⟨by rfl, fun w hSw => ?_⟩) hS ?_
  · dsimp only at hSw; go_simp
  simp only [Act.put]
  refine wpAnyH_ready (rs := [1]) (by kernel_rfl) (by simp) (AllReadyH.cons rfl (fun K hK => ?_) AllReadyH.nil)
  go_simp
  go_wp2_with fail
  refine (K1.out _).mono ?_
  rintro e w1 ⟨rfl, rfl⟩
  go_wp2_with fail
  refine hK.out _ _ hS (fun _ => ?_)
  clear hK K
  refine wpAnyH_ready (rs := [3]) (by kernel_rfl) (by simp) (AllReadyH.cons rfl (fun K hK => ?_) AllReadyH.nil)
  go_simp
  go_wp2_with fail
  refine (K2.out _).mono ?_
  rintro e w1 ⟨rfl, rfl⟩
  go_wp2_with fail
  exact ⟨rfl, ⟨_, rfl⟩, (Below.refl _ _).drew⟩

theorem order_any (a b : Nat) (hA : a < 18446744073709551616) (hB : b < 18446744073709551616) (w : World) :
    Calls Try.prog 11 #[.int .u64 (a : Int), .int .u64 (b : Int)] w fun e w' => e = .returned (.int .i64 (orderN a b)) ∧ Below w.heap.size w w' := by
  have hmf : ∀ (fn : Fn) (first cap : Array Value) (w : World), (Instr.makeFunc fn first cap).run Try.prog w = .ok (.func fn first cap) w := fun _ _ _ _ => rfl
  have hB0 : Below w.heap.size w ((w.alloc (.cells #[.int .u64 (a : Int)] 22)).alloc (.cells #[.int .u64 (b : Int)] 22)) := ((Below.refl _ w).alloc (Nat.le_refl _) _).alloc (by simp) _
  have K : Hid (Calls Try.prog 30 #[.func (.func 31) #[] #[.pointer (some ⟨w.heap.size, 0, none⟩), .pointer (some ⟨w.heap.size + 1, 0, none⟩)], .int .i64 2] ((w.alloc (.cells #[.int .u64 (a : Int)] 22)).alloc (.cells #[.int .u64 (b : Int)] 22)) fun e w' => e = .returned (.int .i64 (orderN a b)) ∧ Below w.heap.size w w') := by
    generalize hW : (w.alloc (.cells #[.int .u64 (a : Int)] 22)).alloc (.cells #[.int .u64 (b : Int)] 22) = W at *
    have s0 : W.heap.size = w.heap.size + 2 := by rw [← hW]; simp
    have f0 : W.cell? ⟨w.heap.size, 0, none⟩ = some (.int .u64 (a : Int)) := by rw [← hW]; simp [go_sem]
    have f1 : W.cell? ⟨w.heap.size + 1, 0, none⟩ = some (.int .u64 (b : Int)) := by rw [← hW]; simp [go_sem]
    unfold orderN
    by_cases h : isNone a ∨ isNone b
    · rw [if_pos h]
      refine (caught_int_thrown 31 _ 2 W (enter_of Try.func31 (by kernel_rfl) (by kernel_rfl) _) ?_).mono fun e w' h => ⟨h.1, hB0.trans (h.2.mono (by omega))⟩
      intro w1 hb
      by_cases ha : isNone a
      · exact order1_thrown_a _ _ a b hA ha w1 (by rw [hb.cell (by simp only; omega), f0]) (by rw [hb.cell (by simp only; omega), f1])
      · exact order1_thrown_b _ _ a b hA hB ha (h.resolve_left ha) w1 (by rw [hb.cell (by simp only; omega), f0]) (by rw [hb.cell (by simp only; omega), f1])
    · rw [if_neg h]
      refine (caught_int 31 _ 2 _ W (enter_of Try.func31 (by kernel_rfl) (by kernel_rfl) _) ?_).mono fun e w' h => ⟨h.1, hB0.trans (h.2.mono (by omega))⟩
      intro w1 hb
      exact order1_ok _ _ a b hA hB (fun x => h (Or.inl x)) (fun x => h (Or.inr x)) w1 (by rw [hb.cell (by simp only; omega), f0]) (by rw [hb.cell (by simp only; omega), f1])
  clear hB0
  generalize orderN a b = o at *
  go_enter Try.func11, Try.ntmps11
  go_wp2_with fail
  refine K.out.mono ?_
  rintro e w1 ⟨rfl, hb⟩
  go_wp2
  go_ret
  exact ⟨rfl, hb⟩

end Go.Proofs.Ytlchjfdnkplmmaa
