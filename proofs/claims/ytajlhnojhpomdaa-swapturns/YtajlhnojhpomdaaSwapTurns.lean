/- Proved: for every v, n, bits and by the law SwapTurns answers true (turned there and on it is as it was, a sign that was extended stays, a multiple is the next one); no conditions. -/
import Derived.Test.YtajlhnojhpomdaaRows
import Derived.Test.YtajlhnojhpomdaaAwake
import Derived.Test.YtajlhnojhpomdaaTurnsPlain
import Derived.WalkKit
import Derived.ProofKit
import Derived.OpenShut
import Derived.ShutString
namespace Go.Proofs.Ytajlhnojhpomdaa.swapTurns
open Go.ChangeShapes Go.WideShapes Go.ChangeAt Go.RowKit Go.Shelf
open Go.ChangeMaps (open_string shut_string)
set_option linter.unusedVariables false

theorem own : ownKnob Try.prog.godebug = none := by kernel_rfl

set_option maxHeartbeats 1000000 in
theorem walk (a0 : Int) (a1 : Int) (a2 : Int) (a3 : Int) (w0 : (Lit.int .u32 a0).wf = true) (w1 : (Lit.int .u8 a1).wf = true) (w2 : (Lit.int .u8 a2).wf = true) (w3 : (Lit.int .u32 a3).wf = true) (w : World) :
    Calls Try.prog 6 #[.int .u32 a0, .int .u8 a1, .int .u8 a2, .int .u32 a3] w fun e w' => e = .returned (.bool true) ∧ Below w.heap.size w w' := by
  obtain ⟨b0, b0'⟩ := bounds_u32 w0
  obtain ⟨b1, b1'⟩ := bounds_u8 w1
  obtain ⟨b2, b2'⟩ := bounds_u8 w2
  obtain ⟨b3, b3'⟩ := bounds_u32 w3
  obtain ⟨v, rfl⟩ := Int.eq_ofNat_of_zero_le b0
  obtain ⟨b, rfl⟩ := Int.eq_ofNat_of_zero_le b3
  have hv : v < 4294967296 := by omega
  have hb : b < 4294967296 := by omega
  obtain ⟨k, hk, hk32⟩ : ∃ k : Nat, a1 % 33 = (k : Int) ∧ k ≤ 32 := ⟨(a1 % 33).toNat, by omega, by omega⟩
  obtain ⟨m, hm, hm1, hm32⟩ : ∃ m : Nat, a2 % 32 + 1 = (m : Int) ∧ 1 ≤ m ∧ m ≤ 32 := ⟨(a2 % 32 + 1).toNat, by omega, by omega, by omega⟩
  clear w0 w1 w2 w3 b0 b3
  have c19a : Hid (∀ w, Calls Try.prog 19 #[.int .u32 (v : Int), .int .i64 (m : Int)] w fun e w' => e = .returned (.int .u32 ((sextS v m : Nat) : Int)) ∧ w' = w) := fun w => sext_in v m hm1 hm32 w
  have c19b : Hid (∀ w, Calls Try.prog 19 #[.int .u32 ((sextS v m : Nat) : Int), .int .i64 (m : Int)] w fun e w' => e = .returned (.int .u32 ((sextS v m : Nat) : Int)) ∧ w' = w) := fun w => by
    have h := sext_in (sextS v m) m hm1 hm32 w
    rw [sext_sext v m hm32] at h
    exact h
  have c21a : Hid (∀ w, Calls Try.prog 21 #[.int .u32 (v : Int), .int .i64 (k : Int)] w fun e w' => e = .returned (.int .u32 ((rotI v (k : Int) : Nat) : Int)) ∧ Below w.heap.size w w') := fun w => rot_any v hv k w
  have c21b : Hid (∀ w, Calls Try.prog 21 #[.int .u32 ((rotI v (k : Int) : Nat) : Int), .int .i64 (32 - (k : Int))] w fun e w' => e = .returned (.int .u32 (v : Int)) ∧ Below w.heap.size w w') := fun w => by
    have h := rot_any (rotI v (k : Int)) (rot_lt v _ hv (by omega)) (32 - (k : Int)) w
    rw [rotI_rotI v k hv hk32] at h
    exact h
  have hkeep : m ≤ 31 → bits .and .u32 (bits .xor .u32 ((sextS v m : Nat) : Int) (v : Int)) ((2 ^ m - 1) % 4294967296) = 0 := fun h => sext_keeps v m hv h
  generalize sextS v m = X at *
  generalize rotI v (k : Int) = Y at *
  by_cases hc : 0 < b ∧ upS v b < 4294967296
  · have c17 : Hid (∀ w, Calls Try.prog 17 #[.int .u32 (v : Int), .int .u32 (b : Int)] w fun e w' => e = .returned (.tuple #[.int .u32 ((upS v b : Nat) : Int), .bool true]) ∧ w' = w) := fun w => by
      have h := up_any v b hv hb w
      rw [upV, if_pos hc] at h
      exact h
    obtain ⟨g1, g2, g3⟩ := up_good v b hc.1
    obtain ⟨hb0, hu⟩ := hc
    generalize upS v b = u at *
    have f1 : (0 : Int) < (b : Int) := by omega
    have f2 : (v : Int) ≤ (u : Int) := by omega
    have f3 : (u : Int) - (v : Int) < (b : Int) := by omega
    have f4 : ((u : Int) % (b : Int) == 0) = true := by rw [beq_iff_eq]; omega
    clear g1 g2 g3
    by_cases hm31 : m ≤ 31
    · have hkp := hkeep hm31
      clear hkeep
      have hlt : (m : Int) < 32 := by omega
      go_enter Try.func6, Try.ntmps6
      go_wp2_with fail
      refine (c19a.out _).mono ?_
      rintro e w1 ⟨rfl, rfl⟩
      go_wp2_with fail
      refine (c17.out _).mono ?_
      rintro e w2 ⟨rfl, rfl⟩
      go_wp2_with fail
      refine (c21a.out _).mono ?_
      rintro e w3 ⟨rfl, hb3⟩
      go_wp2_with fail
      refine (c21b.out _).mono ?_
      rintro e w4 ⟨rfl, hb4⟩
      go_wp2_with fail
      refine (c19b.out _).mono ?_
      rintro e w5 ⟨rfl, rfl⟩
      go_wp2_with fail
      refine (awake_any _).mono ?_
      rintro e w6 ⟨rfl, hb6⟩
      go_wp2
      go_ret
      have h4 := hb3.trans (hb4.mono hb3.size)
      exact ⟨rfl, h4.trans (hb6.mono h4.size)⟩
    · have hlt : ¬ (m : Int) < 32 := by omega
      clear hkeep
      go_enter Try.func6, Try.ntmps6
      go_wp2_with fail
      refine (c19a.out _).mono ?_
      rintro e w1 ⟨rfl, rfl⟩
      go_wp2_with fail
      refine (c17.out _).mono ?_
      rintro e w2 ⟨rfl, rfl⟩
      go_wp2_with fail
      refine (c21a.out _).mono ?_
      rintro e w3 ⟨rfl, hb3⟩
      go_wp2_with fail
      refine (c21b.out _).mono ?_
      rintro e w4 ⟨rfl, hb4⟩
      go_wp2_with fail
      refine (c19b.out _).mono ?_
      rintro e w5 ⟨rfl, rfl⟩
      go_wp2_with fail
      refine (awake_any _).mono ?_
      rintro e w6 ⟨rfl, hb6⟩
      go_wp2
      go_ret
      have h4 := hb3.trans (hb4.mono hb3.size)
      exact ⟨rfl, h4.trans (hb6.mono h4.size)⟩
  · have c17 : Hid (∀ w, Calls Try.prog 17 #[.int .u32 (v : Int), .int .u32 (b : Int)] w fun e w' => e = .returned (.tuple #[.int .u32 0, .bool false]) ∧ w' = w) := fun w => by
      have h := up_any v b hv hb w
      rw [upV, if_neg hc] at h
      exact h
    by_cases h0 : b = 0
    · have f1 : ((b : Int) == 0) = true := by rw [beq_iff_eq]; omega
      clear hc h0
      by_cases hm31 : m ≤ 31
      · have hkp := hkeep hm31
        clear hkeep
        have hlt : (m : Int) < 32 := by omega
        go_enter Try.func6, Try.ntmps6
        go_wp2_with fail
        refine (c19a.out _).mono ?_
        rintro e w1 ⟨rfl, rfl⟩
        go_wp2_with fail
        refine (c17.out _).mono ?_
        rintro e w2 ⟨rfl, rfl⟩
        go_wp2_with fail
        refine (c21a.out _).mono ?_
        rintro e w3 ⟨rfl, hb3⟩
        go_wp2_with fail
        refine (c21b.out _).mono ?_
        rintro e w4 ⟨rfl, hb4⟩
        go_wp2_with fail
        refine (c19b.out _).mono ?_
        rintro e w5 ⟨rfl, rfl⟩
        go_wp2_with fail
        refine (awake_any _).mono ?_
        rintro e w6 ⟨rfl, hb6⟩
        go_wp2
        go_ret
        have h4 := hb3.trans (hb4.mono hb3.size)
        exact ⟨rfl, h4.trans (hb6.mono h4.size)⟩
      · have hlt : ¬ (m : Int) < 32 := by omega
        clear hkeep
        go_enter Try.func6, Try.ntmps6
        go_wp2_with fail
        refine (c19a.out _).mono ?_
        rintro e w1 ⟨rfl, rfl⟩
        go_wp2_with fail
        refine (c17.out _).mono ?_
        rintro e w2 ⟨rfl, rfl⟩
        go_wp2_with fail
        refine (c21a.out _).mono ?_
        rintro e w3 ⟨rfl, hb3⟩
        go_wp2_with fail
        refine (c21b.out _).mono ?_
        rintro e w4 ⟨rfl, hb4⟩
        go_wp2_with fail
        refine (c19b.out _).mono ?_
        rintro e w5 ⟨rfl, rfl⟩
        go_wp2_with fail
        refine (awake_any _).mono ?_
        rintro e w6 ⟨rfl, hb6⟩
        go_wp2
        go_ret
        have h4 := hb3.trans (hb4.mono hb3.size)
        exact ⟨rfl, h4.trans (hb6.mono h4.size)⟩
    · have f1 : ((b : Int) == 0) = false := by rw [beq_eq_false_iff_ne]; omega
      have g := up_bad v b (by omega) hv (by omega)
      have f2 : (4294967295 : Int) - ((b : Int) - 1) < (v : Int) := by omega
      clear hc g
      by_cases hm31 : m ≤ 31
      · have hkp := hkeep hm31
        clear hkeep
        have hlt : (m : Int) < 32 := by omega
        go_enter Try.func6, Try.ntmps6
        go_wp2_with fail
        refine (c19a.out _).mono ?_
        rintro e w1 ⟨rfl, rfl⟩
        go_wp2_with fail
        refine (c17.out _).mono ?_
        rintro e w2 ⟨rfl, rfl⟩
        go_wp2_with fail
        refine (c21a.out _).mono ?_
        rintro e w3 ⟨rfl, hb3⟩
        go_wp2_with fail
        refine (c21b.out _).mono ?_
        rintro e w4 ⟨rfl, hb4⟩
        go_wp2_with fail
        refine (c19b.out _).mono ?_
        rintro e w5 ⟨rfl, rfl⟩
        go_wp2_with fail
        refine (awake_any _).mono ?_
        rintro e w6 ⟨rfl, hb6⟩
        go_wp2
        go_ret
        have h4 := hb3.trans (hb4.mono hb3.size)
        exact ⟨rfl, h4.trans (hb6.mono h4.size)⟩
      · have hlt : ¬ (m : Int) < 32 := by omega
        clear hkeep
        go_enter Try.func6, Try.ntmps6
        go_wp2_with fail
        refine (c19a.out _).mono ?_
        rintro e w1 ⟨rfl, rfl⟩
        go_wp2_with fail
        refine (c17.out _).mono ?_
        rintro e w2 ⟨rfl, rfl⟩
        go_wp2_with fail
        refine (c21a.out _).mono ?_
        rintro e w3 ⟨rfl, hb3⟩
        go_wp2_with fail
        refine (c21b.out _).mono ?_
        rintro e w4 ⟨rfl, hb4⟩
        go_wp2_with fail
        refine (c19b.out _).mono ?_
        rintro e w5 ⟨rfl, rfl⟩
        go_wp2_with fail
        refine (awake_any _).mono ?_
        rintro e w6 ⟨rfl, hb6⟩
        go_wp2
        go_ret
        have h4 := hb3.trans (hb4.mono hb3.size)
        exact ⟨rfl, h4.trans (hb6.mono h4.size)⟩

set_option maxRecDepth 100000 in
theorem lifted (os : Os) (started : os.Started) (H : Type) (enc : TypeId × Value → H) :
    ReturnsInHanded {} Try.checked os 6 .any (Rows.swapTurnsSpec.pre6 enc Try.prog Try.f6 Rows.swapTurnsRow.domain false) (Rows.swapTurnsSpec.post enc Try.prog Try.f6 false true false false) := by
  refine returnsInHanded_of_change (C := Try.checked) own started (by kernel_rfl) Try.func6
    (ChangeSpec.witness6 (enc := enc) (C := Try.checked) false ⟨#[], #[.int .u32 0, .int .u8 0, .int .u8 0, .int .u32 0], []⟩ 8 (by kernel_rfl) (by kernel_rfl) (by kernel_rfl) (by kernel_rfl)) ?_
  intro W base args ds gs before hval0 hW hcnd _
  have hval : ∀ (j : Nat) t v, Try.f6.params[j]? = some t → args[j]? = some v → Value.okWide Try.prog W .any base t v := hval0
  have hW' := hW
  obtain ⟨p, q, hA0, hV, rfl, hfz, hnd⟩ := hW
  have hA : DataW.TrodAll enc Try.prog W 0 (fun _ => true) true Try.f6.params.toList args.toList ds p := hA0
  rw [Try.params6] at hA hval
  obtain ⟨v0, vs0, d0, ds0, p0, q0, hargs, rfl, rfl, h0, r0⟩ := trodAll_cons hA
  obtain ⟨v1, vs1, d1, ds1, p1, q1, rfl, rfl, rfl, h1, r1⟩ := trodAll_cons r0
  obtain ⟨v2, vs2, d2, ds2, p2, q2, rfl, rfl, rfl, h2, r2⟩ := trodAll_cons r1
  obtain ⟨v3, vs3, d3, ds3, p3, q3, rfl, rfl, rfl, h3, r3⟩ := trodAll_cons r2
  obtain ⟨rfl, rfl, rfl⟩ := trodAll_nil r3
  obtain rfl : args = #[v0, v1, v2, v3] := by cases args; simp_all
  obtain ⟨rfl, rfl⟩ := trodVars_none hV
  obtain ⟨a0, rfl, rfl, rfl, w0⟩ := open_int Try.underlying27 (hval 0 27 v0 rfl rfl) h0
  obtain ⟨a1, rfl, rfl, rfl, w1⟩ := open_int Try.underlying5 (hval 1 5 v1 rfl rfl) h1
  obtain ⟨a2, rfl, rfl, rfl, w2⟩ := open_int Try.underlying5 (hval 2 5 v2 rfl rfl) h2
  obtain ⟨a3, rfl, rfl, rfl, w3⟩ := open_int Try.underlying27 (hval 3 27 v3 rfl rfl) h3
  clear hA0 hval0
  simp only [List.append_nil] at hW'
  refine (walk a0 a1 a2 a3 w0 w1 w2 w3 W).mono fun e W' ⟨he, hg⟩ => ?_
  subst he
  exact ⟨_, rfl, _, _, _, [], _, [], hW', (trodAll_cons_mk (shut_bool Try.underlying4 _) trodAll_mk0), (trodAll_cons_mk (shut_int Try.underlying27 w0) (trodAll_cons_mk (shut_int Try.underlying5 w1) (trodAll_cons_mk (shut_int Try.underlying5 w2) (trodAll_cons_mk (shut_int Try.underlying27 w3) trodAll_mk0)))), rfl, hg.frame _, fun h => by cases h⟩

theorem over : Rows.swapTurnsRow.holds Try.pinned (OpenSpec.ofChange Rows.swapTurnsSpec) :=
  OpenClaim.holds_of_wide 6 Try.f6 rfl rfl rfl rfl rfl rfl rfl ⟨rfl, rfl, rfl, rfl, rfl⟩ rfl rfl rfl rfl rfl (by kernel_rfl) Try.func6 (by kernel_rfl)
    (of_decide_eq_true (by kernel_rfl)) (by unfold Func.isWrapper; first | (rw [if_pos (by decide +kernel)]; kernel_rfl) | (rw [if_neg (by decide +kernel)]; exact ⟨rfl, rfl⟩))
    (fun os started H enc _ => lifted os started H enc)

end Go.Proofs.Ytajlhnojhpomdaa.swapTurns
namespace Go.Proofs.Ytajlhnojhpomdaa
theorem swapTurns_holds : Rows.SwapTurnsSaid := swapTurns.over
end Go.Proofs.Ytajlhnojhpomdaa
