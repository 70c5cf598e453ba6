/- What is proved here: plain words for WideBack, and its walk. -/
import Derived.Test.YtbdhgfjhgfohcaaWk
namespace Go.Proofs.Ytbdhgfjhgfohcaa
open Go.RowKit
set_option linter.unusedVariables false
set_option linter.unusedSimpArgs false
set_option maxRecDepth 100000
theorem mod_wit (n : Int) : ∃ m, ((outN n : Nat) : Int) = n + 4294967296 * m := ⟨-(n / 4294967296), by rw [outN_is]; omega⟩
theorem sg_wit (v : Nat) : ∃ m : Int, (v : Int) = sg v + 4294967296 * m := by
  unfold sg; split
  · exact ⟨0, by omega⟩
  · exact ⟨1, by omega⟩
theorem qt_key (q t r s a b x y : Int) (m1 m2 m3 m4 : Int) (h : x * b + y = a) (h1 : q = x + 4294967296 * m1) (h2 : t = b + 4294967296 * m2) (h3 : r = y + 4294967296 * m3) (h4 : s = a + 4294967296 * m4) :
    ∃ m, q * t + r = s + 4294967296 * m := by
  subst h1 h2 h3 h4
  refine ⟨m1 * b + x * m2 + 4294967296 * m1 * m2 + m3 - m4, ?_⟩
  grind
theorem qt_mod (q t r s : Int) (m : Int) (h : q * t + r = s + 4294967296 * m) (h0 : 0 ≤ s) (h1 : s < 4294967296) : (q * t % 4294967296 + r) % 4294967296 = s := by
  rw [Int.emod_add_emod, h]
  omega
theorem div_back (s t : Nat) (hs : s < 4294967296) : (((outN ((sg s).tdiv (sg t)) : Nat) : Int) * (t : Int) % 4294967296 + ((outN ((sg s).tmod (sg t)) : Nat) : Int)) % 4294967296 = (s : Int) := by
  obtain ⟨m1, e1⟩ := mod_wit ((sg s).tdiv (sg t))
  obtain ⟨m2, e2⟩ := sg_wit t
  obtain ⟨m3, e3⟩ := mod_wit ((sg s).tmod (sg t))
  obtain ⟨m4, e4⟩ := sg_wit s
  have h : (sg s).tdiv (sg t) * sg t + (sg s).tmod (sg t) = sg s := by rw [Int.mul_comm]; exact Int.mul_tdiv_add_tmod _ _
  obtain ⟨m, e⟩ := qt_key _ _ _ _ _ _ _ _ m1 m2 m3 m4 h e1 e2 e3 e4
  exact qt_mod _ _ _ _ m e (by omega) (by omega)
theorem divu_back (s t : Nat) (hs : s < 4294967296) : (((s / t : Nat) : Int) * (t : Int) % 4294967296 + ((s % t : Nat) : Int)) % 4294967296 = (s : Int) := by
  refine qt_mod _ _ _ _ 0 ?_ (by omega) (by omega)
  have h : s / t * t + s % t = s := by rw [Nat.mul_comm]; exact Nat.div_add_mod s t
  have h2 : ((s / t : Nat) : Int) * (t : Int) + ((s % t : Nat) : Int) = ((s / t * t + s % t : Nat) : Int) := by simp
  rw [h2, h]; omega
theorem do_div (s t hi lo : Nat) (h0 : ¬ t = 0) : doN ⟨#[100, 105, 118]⟩ s t hi lo = (outN ((sg s).tmod (sg t)), outN ((sg s).tdiv (sg t))) := by
  rw [do_at idx_6, wk_6, dv_ne true s t h0, show rd true s = sg s from rfl, show rd true t = sg t from rfl, (hl_div _ _ (outN_lt _)).1, (hl_div _ _ (outN_lt _)).2]
theorem outN_nat (n : Int) (A : Nat) (hA : A < 4294967296) (h : n = (A : Int)) : outN n = A := by have := psO n A hA h; omega
theorem do_divu (s t hi lo : Nat) (hs : s < 4294967296) (h0 : ¬ t = 0) : doN ⟨#[100, 105, 118, 117]⟩ s t hi lo = (s % t, s / t) := by
  have lq : s / t ≤ s := Nat.div_le_self _ _
  have lr : s % t ≤ s := Nat.mod_le _ _
  have tm : (s : Int).tmod (t : Int) = ((s % t : Nat) : Int) := by rw [Int.tmod_eq_emod_of_nonneg (by omega)]; simp
  have td : (s : Int).tdiv (t : Int) = ((s / t : Nat) : Int) := by rw [Int.tdiv_eq_ediv_of_nonneg (by omega)]; simp
  rw [do_at idx_7, wk_7, dv_ne false s t h0, show rd false s = (s : Int) from rfl, show rd false t = (t : Int) from rfl, (hl_div _ _ (outN_lt _)).1, (hl_div _ _ (outN_lt _)).2, outN_nat _ _ (by omega) tm, outN_nat _ _ (by omega) td]
theorem do_div0 (s hi lo : Nat) : doN ⟨#[100, 105, 118]⟩ s 0 hi lo = (s, 4294967295) ∧ doN ⟨#[100, 105, 118, 117]⟩ s 0 hi lo = (s, 4294967295) := by
  rw [do_at idx_6, wk_6, do_at idx_7, wk_7, dv_zero, dv_zero, (hl_div s 4294967295 (by decide)).1, (hl_div s 4294967295 (by decide)).2]
  exact ⟨rfl, rfl⟩
theorem split_join (z : Nat) : z / 4294967296 * 4294967296 + z % 4294967296 = z := by omega
theorem outW_back (b p : Nat) (hb : b < 18446744073709551616) : outW ((outW ((b : Int) + (p : Int)) : Int) - (p : Int)) = b := by
  have h1 := outW_is ((b : Int) + (p : Int))
  have h2 := outW_is ((outW ((b : Int) + (p : Int)) : Int) - (p : Int))
  generalize outW ((b : Int) + (p : Int)) = z at *
  generalize outW ((z : Int) - (p : Int)) = y at *
  omega
theorem outW_id (p : Nat) (hp : p < 18446744073709551616) : outW (((0 : Nat) : Int) + (p : Int)) = p := by
  have h1 := outW_is (((0 : Nat) : Int) + (p : Int))
  generalize outW (((0 : Nat) : Int) + (p : Int)) = z at *
  omega
theorem pair_split (h l : Nat) (hl : l < 4294967296) (z : Nat) (e : z = h * 4294967296 + l) : (z / 4294967296, z % 4294967296) = (h, l) := by
  subst e; rw [(hl_div h l hl).1, (hl_div h l hl).2]
theorem madd_back (s t hi lo : Nat) (hh : hi < 4294967296) (hl : lo < 4294967296) : doN ⟨#[109, 115, 117, 98]⟩ s t (doN ⟨#[109, 97, 100, 100]⟩ s t hi lo).1 (doN ⟨#[109, 97, 100, 100]⟩ s t hi lo).2 = (hi, lo) := by
  rw [do_at idx_4, do_at idx_2]
  simp only [split_join]
  rw [wk_4, wk_2, outW_back _ _ (by omega)]
  exact pair_split hi lo hl _ rfl
theorem maddu_back (s t hi lo : Nat) (hh : hi < 4294967296) (hl : lo < 4294967296) : doN ⟨#[109, 115, 117, 98, 117]⟩ s t (doN ⟨#[109, 97, 100, 100, 117]⟩ s t hi lo).1 (doN ⟨#[109, 97, 100, 100, 117]⟩ s t hi lo).2 = (hi, lo) := by
  rw [do_at idx_5, do_at idx_3]
  simp only [split_join]
  rw [wk_5, wk_3, outW_back _ _ (by omega)]
  exact pair_split hi lo hl _ rfl
theorem mult_madd (s t : Nat) : doN ⟨#[109, 97, 100, 100]⟩ s t 0 0 = doN ⟨#[109, 117, 108, 116]⟩ s t 1 2 := by
  rw [do_at idx_0, do_at idx_2, wk_0, wk_2, show 0 * 4294967296 + 0 = 0 from rfl, outW_id _ (prN_lt _ _ _)]
set_option maxHeartbeats 2000000 in
theorem back_walk (s t hi lo : Nat) (hs : s < 4294967296) (ht : t < 4294967296) (hh : hi < 4294967296) (hl : lo < 4294967296) (w : World) : Calls Try.prog 5 #[.int .u32 (s : Int), .int .u32 (t : Int), .int .u32 (hi : Int), .int .u32 (lo : Int)] w fun e w' => e = .returned (.bool true) ∧ Below w.heap.size w w' := by
  have lt2 := do_lt ⟨#[109, 97, 100, 100]⟩ s t hi lo hs ht hh hl
  have lt3 := do_lt ⟨#[109, 97, 100, 100, 117]⟩ s t hi lo hs ht hh hl
  have b1 := madd_back s t hi lo hh hl
  have b2 := maddu_back s t hi lo hh hl
  have b3 := mult_madd s t
  have K3 : Hid (∀ w, Calls Try.prog 8 #[.string ⟨#[109, 97, 100, 100]⟩, .int .u32 (s : Int), .int .u32 (t : Int), .int .u32 (hi : Int), .int .u32 (lo : Int)] w fun e w' => e = .returned (.tuple #[.int .u32 ((doN ⟨#[109, 97, 100, 100]⟩ s t hi lo).1 : Int), .int .u32 ((doN ⟨#[109, 97, 100, 100]⟩ s t hi lo).2 : Int)]) ∧ Below w.heap.size w w') := fun w => by
    exact do8 _ s t hi lo hs ht hh hl w
  have K5 : Hid (∀ w, Calls Try.prog 8 #[.string ⟨#[109, 97, 100, 100, 117]⟩, .int .u32 (s : Int), .int .u32 (t : Int), .int .u32 (hi : Int), .int .u32 (lo : Int)] w fun e w' => e = .returned (.tuple #[.int .u32 ((doN ⟨#[109, 97, 100, 100, 117]⟩ s t hi lo).1 : Int), .int .u32 ((doN ⟨#[109, 97, 100, 100, 117]⟩ s t hi lo).2 : Int)]) ∧ Below w.heap.size w w') := fun w => by
    exact do8 _ s t hi lo hs ht hh hl w
  have K4 : Hid (∀ w, Calls Try.prog 8 #[.string ⟨#[109, 115, 117, 98]⟩, .int .u32 (s : Int), .int .u32 (t : Int), .int .u32 ((doN ⟨#[109, 97, 100, 100]⟩ s t hi lo).1 : Int), .int .u32 ((doN ⟨#[109, 97, 100, 100]⟩ s t hi lo).2 : Int)] w fun e w' => e = .returned (.tuple #[.int .u32 (hi : Int), .int .u32 (lo : Int)]) ∧ Below w.heap.size w w') := fun w => by
    have h := do8 ⟨#[109, 115, 117, 98]⟩ s t _ _ hs ht lt2.1 lt2.2 w
    unfold DoIs at h
    rw [b1] at h
    exact h
  have K6 : Hid (∀ w, Calls Try.prog 8 #[.string ⟨#[109, 115, 117, 98, 117]⟩, .int .u32 (s : Int), .int .u32 (t : Int), .int .u32 ((doN ⟨#[109, 97, 100, 100, 117]⟩ s t hi lo).1 : Int), .int .u32 ((doN ⟨#[109, 97, 100, 100, 117]⟩ s t hi lo).2 : Int)] w fun e w' => e = .returned (.tuple #[.int .u32 (hi : Int), .int .u32 (lo : Int)]) ∧ Below w.heap.size w w') := fun w => by
    have h := do8 ⟨#[109, 115, 117, 98, 117]⟩ s t _ _ hs ht lt3.1 lt3.2 w
    unfold DoIs at h
    rw [b2] at h
    exact h
  have K7 : Hid (∀ w, Calls Try.prog 8 #[.string ⟨#[109, 117, 108, 116]⟩, .int .u32 (s : Int), .int .u32 (t : Int), .int .u32 1, .int .u32 2] w fun e w' => e = .returned (.tuple #[.int .u32 ((doN ⟨#[109, 117, 108, 116]⟩ s t 1 2).1 : Int), .int .u32 ((doN ⟨#[109, 117, 108, 116]⟩ s t 1 2).2 : Int)]) ∧ Below w.heap.size w w') := fun w => by
    exact do8 _ s t 1 2 hs ht (by decide) (by decide) w
  have K8 : Hid (∀ w, Calls Try.prog 8 #[.string ⟨#[109, 97, 100, 100]⟩, .int .u32 (s : Int), .int .u32 (t : Int), .int .u32 0, .int .u32 0] w fun e w' => e = .returned (.tuple #[.int .u32 ((doN ⟨#[109, 117, 108, 116]⟩ s t 1 2).1 : Int), .int .u32 ((doN ⟨#[109, 117, 108, 116]⟩ s t 1 2).2 : Int)]) ∧ Below w.heap.size w w') := fun w => by
    have h := do8 ⟨#[109, 97, 100, 100]⟩ s t 0 0 hs ht (by decide) (by decide) w
    unfold DoIs at h
    rw [b3] at h
    exact h
  have KA : Hid (∀ w, Calls Try.prog 12 #[] w fun e w' => e = .returned (.bool true) ∧ Below w.heap.size w w') := awake12
  clear b1 b2 b3 lt2 lt3
  generalize (doN ⟨#[109, 97, 100, 100]⟩ s t hi lo).1 = x0 at *
  generalize (doN ⟨#[109, 97, 100, 100]⟩ s t hi lo).2 = y0 at *
  generalize (doN ⟨#[109, 97, 100, 100, 117]⟩ s t hi lo).1 = x1 at *
  generalize (doN ⟨#[109, 97, 100, 100, 117]⟩ s t hi lo).2 = y1 at *
  generalize (doN ⟨#[109, 117, 108, 116]⟩ s t 1 2).1 = x2 at *
  generalize (doN ⟨#[109, 117, 108, 116]⟩ s t 1 2).2 = y2 at *
  by_cases h0 : t = 0
  · subst h0
    obtain ⟨d1, d2⟩ := do_div0 s hi lo
    have K1 : Hid (∀ w, Calls Try.prog 8 #[.string ⟨#[100, 105, 118]⟩, .int .u32 (s : Int), .int .u32 ((0 : Nat) : Int), .int .u32 (hi : Int), .int .u32 (lo : Int)] w fun e w' => e = .returned (.tuple #[.int .u32 (s : Int), .int .u32 4294967295]) ∧ Below w.heap.size w w') := fun w => by
      have h := do8 ⟨#[100, 105, 118]⟩ s 0 hi lo hs ht hh hl w
      unfold DoIs at h
      rw [d1] at h
      exact h
    have K2 : Hid (∀ w, Calls Try.prog 8 #[.string ⟨#[100, 105, 118, 117]⟩, .int .u32 (s : Int), .int .u32 ((0 : Nat) : Int), .int .u32 (hi : Int), .int .u32 (lo : Int)] w fun e w' => e = .returned (.tuple #[.int .u32 (s : Int), .int .u32 4294967295]) ∧ Below w.heap.size w w') := fun w => by
      have h := do8 ⟨#[100, 105, 118, 117]⟩ s 0 hi lo hs ht hh hl w
      unfold DoIs at h
      rw [d2] at h
      exact h
    clear d1 d2 ht hh hl
    go_enter Try.func5, Try.ntmps5
    go_wp2_with fail
    refine (K1.out _).mono ?_
    rintro e w1 ⟨rfl, h1⟩
    go_wp2_with fail
    refine (K2.out _).mono ?_
    rintro e w2 ⟨rfl, h2⟩
    go_wp2_with fail
    refine (K3.out _).mono ?_
    rintro e w3 ⟨rfl, h3⟩
    go_wp2_with fail
    refine (K4.out _).mono ?_
    rintro e w4 ⟨rfl, h4⟩
    go_wp2_with fail
    refine (K5.out _).mono ?_
    rintro e w5 ⟨rfl, h5⟩
    go_wp2_with fail
    refine (K6.out _).mono ?_
    rintro e w6 ⟨rfl, h6⟩
    go_wp2_with fail
    refine (K7.out _).mono ?_
    rintro e w7 ⟨rfl, h7⟩
    go_wp2_with fail
    refine (K8.out _).mono ?_
    rintro e w8 ⟨rfl, h8⟩
    go_wp2_with fail
    refine (KA.out _).mono ?_
    rintro e w9 ⟨rfl, h9⟩
    go_wp2
    go_ret
    exact ⟨rfl, below_tr h1 (below_tr h2 (below_tr h3 (below_tr h4 (below_tr h5 (below_tr h6 (below_tr h7 (below_tr h8 (h9))))))))⟩
  · have d1 := do_div s t hi lo h0
    have d2 := do_divu s t hi lo hs h0
    have f1 := div_back s t hs
    have f2 := divu_back s t hs
    have f3 : s % t < t := Nat.mod_lt _ (by omega)
    have K1 : Hid (∀ w, Calls Try.prog 8 #[.string ⟨#[100, 105, 118]⟩, .int .u32 (s : Int), .int .u32 (t : Int), .int .u32 (hi : Int), .int .u32 (lo : Int)] w fun e w' => e = .returned (.tuple #[.int .u32 ((outN ((sg s).tmod (sg t)) : Nat) : Int), .int .u32 ((outN ((sg s).tdiv (sg t)) : Nat) : Int)]) ∧ Below w.heap.size w w') := fun w => by
      have h := do8 ⟨#[100, 105, 118]⟩ s t hi lo hs ht hh hl w
      unfold DoIs at h
      rw [d1] at h
      exact h
    have K2 : Hid (∀ w, Calls Try.prog 8 #[.string ⟨#[100, 105, 118, 117]⟩, .int .u32 (s : Int), .int .u32 (t : Int), .int .u32 (hi : Int), .int .u32 (lo : Int)] w fun e w' => e = .returned (.tuple #[.int .u32 ((s % t : Nat) : Int), .int .u32 ((s / t : Nat) : Int)]) ∧ Below w.heap.size w w') := fun w => by
      have h := do8 ⟨#[100, 105, 118, 117]⟩ s t hi lo hs ht hh hl w
      unfold DoIs at h
      rw [d2] at h
      exact h
    clear d1 d2 hh hl
    generalize outN ((sg s).tmod (sg t)) = r at *
    generalize outN ((sg s).tdiv (sg t)) = q at *
    generalize s % t = u at *
    generalize s / t = v at *
    have z1 : ((t : Int) == 0) = false := by rw [beq_eq_false_iff_ne]; omega
    have z2 : (t : Int) ≠ 0 := by omega
    have z3 : ¬ ((t : Int) ≤ (u : Int)) := by omega
    have z4 : ¬ (t ≤ u) := by omega
    have hs' : Hid (s < 4294967296) := hs
    clear hs ht h0
    go_enter Try.func5, Try.ntmps5
    go_wp2_with fail
    refine (K1.out _).mono ?_
    rintro e w1 ⟨rfl, h1⟩
    go_wp2_with fail
    refine (K2.out _).mono ?_
    rintro e w2 ⟨rfl, h2⟩
    go_wp2_with fail
    refine (K3.out _).mono ?_
    rintro e w3 ⟨rfl, h3⟩
    go_wp2_with fail
    refine (K4.out _).mono ?_
    rintro e w4 ⟨rfl, h4⟩
    go_wp2_with fail
    refine (K5.out _).mono ?_
    rintro e w5 ⟨rfl, h5⟩
    go_wp2_with fail
    refine (K6.out _).mono ?_
    rintro e w6 ⟨rfl, h6⟩
    go_wp2_with fail
    refine (K7.out _).mono ?_
    rintro e w7 ⟨rfl, h7⟩
    go_wp2_with fail
    refine (K8.out _).mono ?_
    rintro e w8 ⟨rfl, h8⟩
    go_wp2_with fail
    refine (KA.out _).mono ?_
    rintro e w9 ⟨rfl, h9⟩
    go_wp2
    go_ret
    exact ⟨rfl, below_tr h1 (below_tr h2 (below_tr h3 (below_tr h4 (below_tr h5 (below_tr h6 (below_tr h7 (below_tr h8 (h9))))))))⟩
end Go.Proofs.Ytbdhgfjhgfohcaa
