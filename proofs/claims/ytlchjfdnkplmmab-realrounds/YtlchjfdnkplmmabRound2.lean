/- What is proved here: Round, by the program. -/
import Derived.Test.YtlchjfdnkplmmabRound
namespace Go.Proofs.Ytlchjfdnkplmmab
open Go.RowKit

theorem class_plain (a : Nat) (h : rung a < 9218868437227405312) : (classN a : Int) ≤ 2 := by
  unfold classN; (repeat' split) <;> omega
theorem class_more (a : Nat) (h : ¬ rung a < 9218868437227405312) : (2 : Int) < (classN a : Int) := by
  unfold classN; (repeat' split) <;> omega
set_option maxHeartbeats 1000000 in
theorem round1_thrown (p q : Addr) (a : Nat) (way : Int) (hA : a < 18446744073709551616) (h : ¬ rung a < 9218868437227405312) (w : World)
    (hp : w.cell? p = some (.int .u64 (a : Int))) (hq : w.cell? q = some (.int .i64 way)) :
    Calls Try.prog 13 #[.pointer (some p), .pointer (some q)] w fun e w' => (∃ x : Int, e = .panicked (thrown x)) ∧ Below w.heap.size w w' := by
  have K1 : Hid (∀ w, Calls Try.prog 16 #[.int .u64 (a : Int), .int .i64 2] w fun e w' => e = .panicked (thrown a) ∧ w' = w) := fun w => number_thrown a hA 2 (class_more a h) w
  clear hA h
  go_enter Try.func13, Try.ntmps13
  go_wp2
  refine wp_region_held_drew (S := fun w' => w'.cell? p = some (.int .u64 (a : Int)) ∧ w'.cell? q = some (.int .i64 way)) (by kernel_rfl) ⟨by simp [hp], by simp [hq]⟩ (fun hS => ?_)
  refine wpAnyH_take (i := 0) (v := .int .u64 (a : Int)) rfl (by kernel_rfl) (by kernel_rfl) (by kernel_rfl) (fun _ _ _ h => h) (Or.inl ⟨by rfl, fun w hSw => ?_⟩) hS ?_
  · dsimp only at hSw; go_simp
  simp only [Act.put]
  refine wpAnyH_take (i := 2) (v := .int .i64 way) rfl (by kernel_rfl) (by kernel_rfl) (by kernel_rfl) (fun _ _ _ h => h) (Or.inl ⟨by rfl, fun w hSw => ?_⟩) hS ?_
  · dsimp only at hSw; go_simp
  simp only [Act.put]
  refine wpAnyH_ready (rs := [1]) (by kernel_rfl) (by simp) (AllReadyH.cons rfl (fun K hK => ?_) AllReadyH.nil)
  go_simp
  go_wp2_with fail
  refine (K1.out _).mono ?_
  rintro e w1 ⟨rfl, rfl⟩
  go_wp2_with fail
  exact ⟨rfl, ⟨_, rfl⟩, (Below.refl _ _).drew⟩
set_option maxHeartbeats 1000000 in
theorem round1_ok (p q : Addr) (a : Nat) (way : Int) (hA : a < 18446744073709551616) (h : rung a < 9218868437227405312) (w : World)
    (hp : w.cell? p = some (.int .u64 (a : Int))) (hq : w.cell? q = some (.int .i64 way)) :
    Calls Try.prog 13 #[.pointer (some p), .pointer (some q)] w fun e w' => e = .returned (.int .u64 ((wholeN a way : Nat) : Int)) ∧ Below w.heap.size w w' := by
  have hn : ¬ isNone a := by unfold isNone infR; omega
  have K1 : Hid (∀ w, Calls Try.prog 16 #[.int .u64 (a : Int), .int .i64 2] w fun e w' => e = .returned (.float .f64 a) ∧ w' = w) := fun w => number_ok a hA 2 (class_plain a h) w
  have K2 : Hid (∀ w, Calls Try.prog 15 #[.float .f64 a, .int .i64 way] w fun e w' => e = .returned (.float .f64 (wholeN a way)) ∧ w' = w) := whole_any a hn way
  have hx := x_bits (wholeN a way)
  generalize wholeN a way = o at *
  clear hA h hn
  go_enter Try.func13, Try.ntmps13
  go_wp2
  refine wp_region_held_drew (S := fun w' => w'.cell? p = some (.int .u64 (a : Int)) ∧ w'.cell? q = some (.int .i64 way)) (by kernel_rfl) ⟨by simp [hp], by simp [hq]⟩ (fun hS => ?_)
  refine wpAnyH_take (i := 0) (v := .int .u64 (a : Int)) rfl (by kernel_rfl) (by kernel_rfl) (by kernel_rfl) (fun _ _ _ h => h) (Or.inl ⟨by rfl, fun w hSw => ?_⟩) hS ?_
  · dsimp only at hSw; go_simp
  simp only [Act.put]
  refine wpAnyH_take (i := 2) (v := .int .i64 way) rfl (by kernel_rfl) (by kernel_rfl) (by kernel_rfl) (fun _ _ _ h => h) (Or.inl ⟨by rfl, fun w hSw => ?_⟩) hS ?_
  · dsimp only at hSw; go_simp
  simp only [Act.put]
  refine wpAnyH_ready (rs := [1]) (by kernel_rfl) (by simp) (AllReadyH.cons rfl (fun K hK => ?_) AllReadyH.nil)
  go_simp
  go_wp2_with fail
  refine (K1.out _).mono ?_
  rintro e w1 ⟨rfl, rfl⟩
  go_wp2_with fail
  refine hK.out _ _ hS (fun _ => ?_)
  clear hK K
  refine wpAnyH_ready (rs := [3]) (by kernel_rfl) (by simp) (AllReadyH.cons rfl (fun K hK => ?_) AllReadyH.nil)
  go_simp
  go_wp2_with fail
  refine (K2.out _).mono ?_
  rintro e w1 ⟨rfl, rfl⟩
  go_wp2_with fail
  refine hK.out _ _ hS (fun _ => ?_)
  clear hK K
  refine wpAnyH_ready (rs := [4]) (by kernel_rfl) (by simp) (AllReadyH.cons rfl (fun K hK => ?_) AllReadyH.nil)
  go_simp
  refine hK.out _ _ hS (fun _ => ?_)
  clear hK K
  refine wpAnyH_ready (rs := [5]) (by kernel_rfl) (by simp) (AllReadyH.cons rfl (fun K hK => ?_) AllReadyH.nil)
  go_simp
  refine hK.out _ _ hS (fun _ => ?_)
  clear hK K
  refine wpAnyH_done (by kernel_rfl) ?_ _
  go_wp2
  go_ret
  exact ⟨rfl, (Below.refl _ _).drew⟩

theorem round_any (a : Nat) (way : Int) (hA : a < 18446744073709551616) (w : World) :
    Calls Try.prog 6 #[.int .u64 (a : Int), .int .i64 way] w fun e w' => e = .returned (.int .u64 ((roundN a way : Nat) : Int)) ∧ Below w.heap.size w w' := by
  have hmf : ∀ (fn : Fn) (first cap : Array Value) (w : World), (Instr.makeFunc fn first cap).run Try.prog w = .ok (.func fn first cap) w := fun _ _ _ _ => rfl
  have hB0 : Below w.heap.size w ((w.alloc (.cells #[.int .u64 (a : Int)] 22)).alloc (.cells #[.int .i64 way] 3)) := ((Below.refl _ w).alloc (Nat.le_refl _) _).alloc (by simp) _
  have Q : Hid (∀ w, Calls Try.prog 17 #[.int .u64 (a : Int)] w fun e w' => e = .returned (.int .u64 ((if isNone a then quietN else a : Nat) : Int)) ∧ w' = w) := quieted_any a hA
  have K : Hid (Calls Try.prog 12 #[.func (.func 13) #[] #[.pointer (some ⟨w.heap.size, 0, none⟩), .pointer (some ⟨w.heap.size + 1, 0, none⟩)], .int .u64 ((if isNone a then quietN else a : Nat) : Int)] ((w.alloc (.cells #[.int .u64 (a : Int)] 22)).alloc (.cells #[.int .i64 way] 3)) fun e w' => e = .returned (.int .u64 ((roundN a way : Nat) : Int)) ∧ Below w.heap.size w w') := by
    generalize hW : (w.alloc (.cells #[.int .u64 (a : Int)] 22)).alloc (.cells #[.int .i64 way] 3) = W at *
    have s0 : W.heap.size = w.heap.size + 2 := by rw [← hW]; simp
    have f0 : W.cell? ⟨w.heap.size, 0, none⟩ = some (.int .u64 (a : Int)) := by rw [← hW]; simp [go_sem]
    have f1 : W.cell? ⟨w.heap.size + 1, 0, none⟩ = some (.int .i64 way) := by rw [← hW]; simp [go_sem]
    have en := enter_of Try.func13 (by kernel_rfl) (by kernel_rfl)
    by_cases h : rung a < 9218868437227405312
    · have hn : ¬ isNone a := by unfold isNone infR; omega
      unfold roundN
      rw [if_neg hn, if_neg hn, if_pos h]
      refine (caught_u64 13 _ _ _ W (en _) ?_).mono fun e w' h => ⟨h.1, hB0.trans (h.2.mono (by omega))⟩
      intro w1 hb
      exact round1_ok _ _ a way hA h w1 (by rw [hb.cell (by simp only; omega), f0]) (by rw [hb.cell (by simp only; omega), f1])
    · have e : roundN a way = if isNone a then quietN else a := by unfold roundN; rw [if_neg h]
      rw [e]
      refine (caught_u64_thrown 13 _ _ W (en _) ?_).mono fun e w' h => ⟨h.1, hB0.trans (h.2.mono (by omega))⟩
      intro w1 hb
      exact round1_thrown _ _ a way hA h w1 (by rw [hb.cell (by simp only; omega), f0]) (by rw [hb.cell (by simp only; omega), f1])
  clear hB0 hA
  generalize roundN a way = o at *
  generalize (if isNone a then quietN else a : Nat) = u at *
  go_enter Try.func6, Try.ntmps6
  go_wp2_with fail
  refine (Q.out _).mono ?_
  rintro e w1 ⟨rfl, rfl⟩
  go_wp2_with fail
  refine K.out.mono ?_
  rintro e w1 ⟨rfl, hb⟩
  go_wp2
  go_ret
  exact ⟨rfl, hb⟩
end Go.Proofs.Ytlchjfdnkplmmab
