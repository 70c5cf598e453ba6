/- What is proved here: plain words for WideSigns, and its walk. -/
import Derived.Test.YtbdhgfjhgfohcaaWl
namespace Go.Proofs.Ytbdhgfjhgfohcaa
open Go.RowKit
set_option linter.unusedVariables false
set_option linter.unusedSimpArgs false
set_option maxRecDepth 100000
theorem join21 (h l : Nat) (hh : h < 4294967296) (hl : l < 4294967296) (w : World) : Calls Try.prog 21 #[.int .u32 (h : Int), .int .u32 (l : Int)] w fun e w' => e = .returned (.int .u64 ((h * 4294967296 + l : Nat) : Int)) ∧ Below w.heap.size w w' := by
  have h1 : Hid _ := join_key h l hh hl
  go_enter Try.func21, Try.ntmps21
  go_wp2
  go_ret
  exact ⟨ret_int h1.out, Below.refl _ _⟩
def joinN (h l : Nat) : Nat := h * 4294967296 + l
def negN (s : Nat) : Nat := (4294967296 - s) % 4294967296
theorem neg_lt (s : Nat) : negN s < 4294967296 := Nat.mod_lt _ (by decide)
theorem neg_is (s : Nat) (hs : s < 4294967296) : (-(s : Int)) % 4294967296 = (negN s : Int) := by unfold negN; omega
theorem sg_negN (s : Nat) (hs : s < 4294967296) (h : s ≠ 2147483648) : sg (negN s) = -(sg s) := by
  unfold sg negN
  by_cases h0 : s = 0
  · subst h0; decide
  · rw [show (4294967296 - s) % 4294967296 = 4294967296 - s from by omega]
    split <;> split <;> omega
theorem outW_neg (x : Int) : IntKind.u64.wrap (-((outW x : Nat) : Int)) = ((outW (-x) : Nat) : Int) := by
  rw [outW_is, outW_is, IntKind.wrap_u64]; omega
theorem pr_neg (s t : Nat) (hs : s < 4294967296) (h : s ≠ 2147483648) : IntKind.u64.wrap (-((prN true s t : Nat) : Int)) = ((prN true (negN s) t : Nat) : Int) := by
  show IntKind.u64.wrap (-((outW (sg s * sg t) : Nat) : Int)) = ((outW (sg (negN s) * sg t) : Nat) : Int)
  rw [outW_neg, sg_negN s hs h, Int.neg_mul]
set_option maxHeartbeats 2000000 in
theorem signs_walk (s t hi lo : Nat) (hs : s < 4294967296) (ht : t < 4294967296) (hh : hi < 4294967296) (hl : lo < 4294967296) (w : World) : Calls Try.prog 7 #[.int .u32 (s : Int), .int .u32 (t : Int), .int .u32 (hi : Int), .int .u32 (lo : Int)] w fun e w' => e = .returned (.bool true) ∧ Below w.heap.size w w' := by
  have hc21 : ∀ (args : Array Value) (w : World), (callFunc 21 args).run Try.prog w = .ok (.enter 21 args) w := fun args w => enter_of Try.func21 (by kernel_rfl) (by kernel_rfl) args w
  have lP := prN_lt false s t
  have lM := prN_lt true s t
  have lN := prN_lt true (negN s) t
  have K1 : Hid (∀ w, Calls Try.prog 8 #[.string ⟨#[109, 117, 108, 116, 117]⟩, .int .u32 (s : Int), .int .u32 (t : Int), .int .u32 (hi : Int), .int .u32 (lo : Int)] w fun e w' => e = .returned (.tuple #[.int .u32 ((prN false s t / 4294967296 : Nat) : Int), .int .u32 ((prN false s t % 4294967296 : Nat) : Int)]) ∧ Below w.heap.size w w') := fun w => by
    have h := do8 ⟨#[109, 117, 108, 116, 117]⟩ s t hi lo hs ht hh hl w
    unfold DoIs at h
    rw [do_at idx_1, wk_1] at h
    exact h
  have J1 : Hid (∀ w, Calls Try.prog 21 #[.int .u32 ((prN false s t / 4294967296 : Nat) : Int), .int .u32 ((prN false s t % 4294967296 : Nat) : Int)] w fun e w' => e = .returned (.int .u64 ((prN false s t : Nat) : Int)) ∧ Below w.heap.size w w') := fun w => by
    have h := join21 (prN false s t / 4294967296) (prN false s t % 4294967296) (by omega) (by omega) w
    rw [split_join] at h
    exact h
  have K2 : Hid (∀ w, Calls Try.prog 8 #[.string ⟨#[109, 117, 108, 116]⟩, .int .u32 (s : Int), .int .u32 (t : Int), .int .u32 (hi : Int), .int .u32 (lo : Int)] w fun e w' => e = .returned (.tuple #[.int .u32 ((prN true s t / 4294967296 : Nat) : Int), .int .u32 ((prN true s t % 4294967296 : Nat) : Int)]) ∧ Below w.heap.size w w') := fun w => by
    have h := do8 ⟨#[109, 117, 108, 116]⟩ s t hi lo hs ht hh hl w
    unfold DoIs at h
    rw [do_at idx_0, wk_0] at h
    exact h
  have J2 : Hid (∀ w, Calls Try.prog 21 #[.int .u32 ((prN true s t / 4294967296 : Nat) : Int), .int .u32 ((prN true s t % 4294967296 : Nat) : Int)] w fun e w' => e = .returned (.int .u64 ((prN true s t : Nat) : Int)) ∧ Below w.heap.size w w') := fun w => by
    have h := join21 (prN true s t / 4294967296) (prN true s t % 4294967296) (by omega) (by omega) w
    rw [split_join] at h
    exact h
  have K3 : Hid (∀ w, Calls Try.prog 8 #[.string ⟨#[109, 117, 108, 116]⟩, .int .u32 ((negN s : Nat) : Int), .int .u32 (t : Int), .int .u32 (hi : Int), .int .u32 (lo : Int)] w fun e w' => e = .returned (.tuple #[.int .u32 ((prN true (negN s) t / 4294967296 : Nat) : Int), .int .u32 ((prN true (negN s) t % 4294967296 : Nat) : Int)]) ∧ Below w.heap.size w w') := fun w => by
    have h := do8 ⟨#[109, 117, 108, 116]⟩ (negN s : Nat) t hi lo (neg_lt s) ht hh hl w
    unfold DoIs at h
    rw [do_at idx_0, wk_0] at h
    exact h
  have J3 : Hid (∀ w, Calls Try.prog 21 #[.int .u32 ((prN true (negN s) t / 4294967296 : Nat) : Int), .int .u32 ((prN true (negN s) t % 4294967296 : Nat) : Int)] w fun e w' => e = .returned (.int .u64 ((prN true (negN s) t : Nat) : Int)) ∧ Below w.heap.size w w') := fun w => by
    have h := join21 (prN true (negN s) t / 4294967296) (prN true (negN s) t % 4294967296) (by omega) (by omega) w
    rw [split_join] at h
    exact h
  have K4 : Hid (∀ w, Calls Try.prog 8 #[.string ⟨#[109, 116, 104, 105]⟩, .int .u32 (s : Int), .int .u32 (t : Int), .int .u32 (hi : Int), .int .u32 (lo : Int)] w fun e w' => e = .returned (.tuple #[.int .u32 (s : Int), .int .u32 (lo : Int)]) ∧ Below w.heap.size w w') := fun w => by
    have h := do8 ⟨#[109, 116, 104, 105]⟩ s t hi lo hs ht hh hl w
    unfold DoIs at h
    rw [do_at idx_8, wk_8, hl_mod hi lo hl, (hl_div s lo hl).1, (hl_div s lo hl).2] at h
    exact h
  have J4 : Hid (∀ w, Calls Try.prog 21 #[.int .u32 (s : Int), .int .u32 (lo : Int)] w fun e w' => e = .returned (.int .u64 ((joinN s lo : Nat) : Int)) ∧ Below w.heap.size w w') := join21 s lo (by omega) (by omega)
  have K5 : Hid (∀ w, Calls Try.prog 8 #[.string ⟨#[109, 116, 108, 111]⟩, .int .u32 (s : Int), .int .u32 (t : Int), .int .u32 (hi : Int), .int .u32 (lo : Int)] w fun e w' => e = .returned (.tuple #[.int .u32 (hi : Int), .int .u32 (s : Int)]) ∧ Below w.heap.size w w') := fun w => by
    have h := do8 ⟨#[109, 116, 108, 111]⟩ s t hi lo hs ht hh hl w
    unfold DoIs at h
    rw [do_at idx_9, wk_9, (hl_div hi lo hl).1, (hl_div hi s hs).1, (hl_div hi s hs).2] at h
    exact h
  have J5 : Hid (∀ w, Calls Try.prog 21 #[.int .u32 (hi : Int), .int .u32 (s : Int)] w fun e w' => e = .returned (.int .u64 ((joinN hi s : Nat) : Int)) ∧ Below w.heap.size w w') := join21 hi s (by omega) (by omega)
  have KA : Hid (∀ w, Calls Try.prog 12 #[] w fun e w' => e = .returned (.bool true) ∧ Below w.heap.size w w') := awake12
  have hng := neg_is s hs
  have e1 : (s : Int) * (t : Int) = ((prN false s t : Nat) : Int) := (prU s t hs ht).symm
  have e2 : IntKind.u64.wrap ((prN false s t : Nat) : Int) = ((prN false s t : Nat) : Int) := by rw [IntKind.wrap_u64]; omega
  have h1 := sg_wrap s hs
  have h2 := sg_wrap t ht
  have h3 : wrap64 (sg s) = sg s := by have := sg_lo s hs; unfold wrap64; omega
  have h4 : wrap64 (sg t) = sg t := by have := sg_lo t ht; unfold wrap64; omega
  have hk : IntKind.u64.wrap (wrap64 (sg s * sg t)) = ((prN true s t : Nat) : Int) := outW_wrap _
  have hn : s ≠ 2147483648 → IntKind.u64.wrap (-((prN true s t : Nat) : Int)) = ((prN true (negN s) t : Nat) : Int) := pr_neg s t hs
  clear lP lM lN
  generalize joinN s lo = X at *
  generalize joinN hi s = Y at *
  generalize prN false s t / 4294967296 = Ph at *
  generalize prN false s t % 4294967296 = Pl at *
  generalize prN false s t = P at *
  generalize prN true s t / 4294967296 = Mh at *
  generalize prN true s t % 4294967296 = Ml at *
  generalize prN true s t = M at *
  generalize prN true (negN s) t / 4294967296 = Nh at *
  generalize prN true (negN s) t % 4294967296 = Nl at *
  generalize prN true (negN s) t = N at *
  generalize negN s = s' at *
  generalize sg s = a at *
  generalize sg t = b at *
  by_cases hm : s = 2147483648
  · have z1 : ((s : Int) == 2147483648) = true := by rw [beq_iff_eq]; omega
    clear hm hn hh hl
    go_enter Try.func7, Try.ntmps7
    go_wp2_with fail
    refine (K1.out _).mono ?_
    rintro e w1 ⟨rfl, h1⟩
    go_wp2_with fail
    refine (J1.out _).mono ?_
    rintro e w2 ⟨rfl, h2⟩
    go_wp2_with fail
    refine (K2.out _).mono ?_
    rintro e w3 ⟨rfl, h3⟩
    go_wp2_with fail
    refine (J2.out _).mono ?_
    rintro e w4 ⟨rfl, h4⟩
    go_wp2_with fail
    refine (K4.out _).mono ?_
    rintro e w5 ⟨rfl, h5⟩
    go_wp2_with fail
    refine (J4.out _).mono ?_
    rintro e w6 ⟨rfl, h6⟩
    go_wp2_with fail
    refine (K5.out _).mono ?_
    rintro e w7 ⟨rfl, h7⟩
    go_wp2_with fail
    refine (J5.out _).mono ?_
    rintro e w8 ⟨rfl, h8⟩
    go_wp2_with fail
    refine (J4.out _).mono ?_
    rintro e w9 ⟨rfl, h9⟩
    go_wp2_with fail
    refine (J5.out _).mono ?_
    rintro e w10 ⟨rfl, h10⟩
    go_wp2_with fail
    refine (KA.out _).mono ?_
    rintro e w11 ⟨rfl, h11⟩
    go_wp2
    go_ret
    exact ⟨rfl, below_tr h1 (below_tr h2 (below_tr h3 (below_tr h4 (below_tr h5 (below_tr h6 (below_tr h7 (below_tr h8 (below_tr h9 (below_tr h10 (h11))))))))))⟩
  · have z1 : ((s : Int) == 2147483648) = false := by rw [beq_eq_false_iff_ne]; omega
    have hn := hn hm
    clear hm hh hl
    go_enter Try.func7, Try.ntmps7
    go_wp2_with fail
    refine (K1.out _).mono ?_
    rintro e w1 ⟨rfl, h1⟩
    go_wp2_with fail
    refine (J1.out _).mono ?_
    rintro e w2 ⟨rfl, h2⟩
    go_wp2_with fail
    refine (K2.out _).mono ?_
    rintro e w3 ⟨rfl, h3⟩
    go_wp2_with fail
    refine (J2.out _).mono ?_
    rintro e w4 ⟨rfl, h4⟩
    go_wp2_with fail
    refine (K3.out _).mono ?_
    rintro e w5 ⟨rfl, h5⟩
    go_wp2_with fail
    refine (J3.out _).mono ?_
    rintro e w6 ⟨rfl, h6⟩
    go_wp2_with fail
    refine (K4.out _).mono ?_
    rintro e w7 ⟨rfl, h7⟩
    go_wp2_with fail
    refine (J4.out _).mono ?_
    rintro e w8 ⟨rfl, h8⟩
    go_wp2_with fail
    refine (K5.out _).mono ?_
    rintro e w9 ⟨rfl, h9⟩
    go_wp2_with fail
    refine (J5.out _).mono ?_
    rintro e w10 ⟨rfl, h10⟩
    go_wp2_with fail
    refine (J4.out _).mono ?_
    rintro e w11 ⟨rfl, h11⟩
    go_wp2_with fail
    refine (J5.out _).mono ?_
    rintro e w12 ⟨rfl, h12⟩
    go_wp2_with fail
    refine (KA.out _).mono ?_
    rintro e w13 ⟨rfl, h13⟩
    go_wp2
    go_ret
    exact ⟨rfl, below_tr h1 (below_tr h2 (below_tr h3 (below_tr h4 (below_tr h5 (below_tr h6 (below_tr h7 (below_tr h8 (below_tr h9 (below_tr h10 (below_tr h11 (below_tr h12 (h13))))))))))))⟩
end Go.Proofs.Ytbdhgfjhgfohcaa
