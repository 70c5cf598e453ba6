/- Proved: for every v and n the law SwapBack answers true (a number's bytes, in either order, are read as it; one order is the other one turned about); no conditions. -/
import Derived.Test.YtajlhnojhpomdaaRows
import Derived.Test.YtajlhnojhpomdaaAwake
import Derived.Test.YtajlhnojhpomdaaBackPlain
import Derived.WalkKit
import Derived.ProofKit
import Derived.OpenShut
import Derived.ShutString
namespace Go.Proofs.Ytajlhnojhpomdaa.swapBack
open Go.ChangeShapes Go.WideShapes Go.ChangeAt Go.RowKit Go.Shelf
open Go.ChangeMaps (open_string shut_string)
set_option linter.unusedVariables false

theorem own : ownKnob Try.prog.godebug = none := by kernel_rfl

set_option maxHeartbeats 1000000 in
theorem walk (a0 : Int) (a1 : Int) (w0 : (Lit.int .u64 a0).wf = true) (w1 : (Lit.int .u8 a1).wf = true) (w : World) :
    Calls Try.prog 5 #[.int .u64 a0, .int .u8 a1] w fun e w' => e = .returned (.bool true) ∧ Below w.heap.size w w' := by
  obtain ⟨b0, b0'⟩ := bounds_u64 w0
  obtain ⟨b1, b1'⟩ := bounds_u8 w1
  obtain ⟨v, rfl⟩ := Int.eq_ofNat_of_zero_le b0
  have hv : v < 18446744073709551616 := by omega
  obtain ⟨k, hk, hk8⟩ : ∃ k : Nat, a1 % 9 = (k : Int) ∧ k ≤ 8 := ⟨(a1 % 9).toNat, by omega, by omega⟩
  clear w0 w1 b0
  have c13 : Hid (∀ w, Calls Try.prog 13 #[.int .u64 (v : Int), .int .i64 (k : Int)] w fun e w' => e = .returned (.string (putBeS v (k : Int))) ∧ Below w.heap.size w w') := fun w => putBe_any v k w
  have c15 : Hid (∀ w, Calls Try.prog 15 #[.int .u64 (v : Int), .int .i64 (k : Int)] w fun e w' => e = .returned (.string (putLeS v (k : Int))) ∧ Below w.heap.size w w') := fun w => putLe_any v k w
  have c9 : Hid (∀ w, Calls Try.prog 9 #[.string (putBeS v (k : Int))] w fun e w' => e = .returned (.int .u64 ((v % 2 ^ (8 * k) : Nat) : Int)) ∧ Below w.heap.size w w') := fun w => by
    have h := be_any (putBeS v (k : Int)) w
    rw [(be_put v k hk8).1] at h
    exact h
  have c11 : Hid (∀ w, Calls Try.prog 11 #[.string (putLeS v (k : Int))] w fun e w' => e = .returned (.int .u64 ((v % 2 ^ (8 * k) : Nat) : Int)) ∧ Below w.heap.size w w') := fun w => by
    have h := le_any (putLeS v (k : Int)) w
    rw [(be_put v k hk8).2] at h
    exact h
  obtain ⟨hA, hB⟩ := put_size v k hk8
  have hT := put_turn v k hk8
  have hM8 : k = 8 → v % 2 ^ (8 * k) = v := fun h => by subst h; exact Nat.mod_eq_of_lt hv
  have hM7 : k ≤ 7 → bits .and .u64 (v : Int) (IntKind.u64.wrap (IntKind.u64.wrap (2 ^ (8 * k)) - 1)) = ((v % 2 ^ (8 * k) : Nat) : Int) := fun h => mask64 v k hv h
  generalize putBeS v (k : Int) = A at *
  generalize putLeS v (k : Int) = B at *
  generalize v % 2 ^ (8 * k) = M at *
  have HT : Hid (∀ (i j : Nat), i + j + 1 = k → ∀ (h1 : i < A.size) (h2 : j < B.size), A[i] = B[j]) := hT
  have HM8 : Hid (k = 8 → M = v) := hM8
  have HM7 : Hid (k ≤ 7 → bits .and .u64 (v : Int) (IntKind.u64.wrap (IntKind.u64.wrap (2 ^ (8 * k)) - 1)) = (M : Int)) := hM7
  clear hT hM8 hM7
  go_enter Try.func5, Try.ntmps5
  go_wp2_with fail
  refine (c13.out _).mono ?_
  rintro e w1 ⟨rfl, hb1⟩
  go_wp2_with fail
  refine (c15.out _).mono ?_
  rintro e w2 ⟨rfl, hb2⟩
  go_wp2_with fail
  have hb12 := hb1.trans (hb2.mono hb1.size)
  clear hb1 hb2 c13 c15
  go_loopw [30] (fun i wr => ∃ n : Nat, n ≤ k ∧ i = .int .i64 (n : Int) ∧ Below w.heap.size w wr) (fun i _ => k - (intOf i).toNat)
  case atStart => exact ⟨0, Nat.zero_le _, rfl, hb12⟩
  case round =>
    obtain ⟨n, hn, rfl, hbr⟩ := hrel
    by_cases hlt : n < k
    · obtain ⟨j, hj, hnj⟩ : ∃ j : Nat, (k : Int) - 1 - (n : Int) = (j : Int) ∧ n + j + 1 = k := ⟨k - 1 - n, by omega, by omega⟩
      have hjk : j < k := by omega
      have hE := congrArg UInt8.toNat (HT.out n j hnj (by omega) (by omega))
      clear hnj
      go_wp2
      go_quiet (fail)
      go_wp2
      exact ⟨⟨n + 1, by omega, by go_num, below_drewN hbr _⟩, by simp [intOf]; omega⟩
    · obtain rfl : n = k := by omega
      by_cases hk7 : n ≤ 7
      · have hm := HM7.out hk7
        have hlt8 : (n : Int) < 8 := by omega
        clear HM7 HM8 HT
        go_wp2_with fail
        refine (c9.out _).mono ?_
        rintro e w3 ⟨rfl, hb3⟩
        go_wp2_with fail
        refine (c11.out _).mono ?_
        rintro e w4 ⟨rfl, hb4⟩
        go_wp2_with fail
        refine (awake_any _).mono ?_
        rintro e w5 ⟨rfl, hb5⟩
        go_wp2
        go_ret
        have h3 := hbr.trans (hb3.mono hbr.size)
        have h4 := h3.trans (hb4.mono h3.size)
        exact ⟨rfl, h4.trans (hb5.mono h4.size)⟩
      · have hm : M = v := HM8.out (by omega)
        subst hm
        have hlt8 : ¬ (n : Int) < 8 := by omega
        clear HM7 HM8 HT
        go_wp2_with fail
        refine (c9.out _).mono ?_
        rintro e w3 ⟨rfl, hb3⟩
        go_wp2_with fail
        refine (c11.out _).mono ?_
        rintro e w4 ⟨rfl, hb4⟩
        go_wp2_with fail
        refine (awake_any _).mono ?_
        rintro e w5 ⟨rfl, hb5⟩
        go_wp2
        go_ret
        have h3 := hbr.trans (hb3.mono hbr.size)
        have h4 := h3.trans (hb4.mono h3.size)
        exact ⟨rfl, h4.trans (hb5.mono h4.size)⟩

set_option maxRecDepth 100000 in
theorem lifted (os : Os) (started : os.Started) (H : Type) (enc : TypeId × Value → H) :
    ReturnsInHanded {} Try.checked os 5 .any (Rows.swapBackSpec.pre6 enc Try.prog Try.f5 Rows.swapBackRow.domain false) (Rows.swapBackSpec.post enc Try.prog Try.f5 false true false false) := by
  refine returnsInHanded_of_change (C := Try.checked) own started (by kernel_rfl) Try.func5
    (ChangeSpec.witness6 (enc := enc) (C := Try.checked) false ⟨#[], #[.int .u64 0, .int .u8 0], []⟩ 8 (by kernel_rfl) (by kernel_rfl) (by kernel_rfl) (by kernel_rfl)) ?_
  intro W base args ds gs before hval0 hW hcnd _
  have hval : ∀ (j : Nat) t v, Try.f5.params[j]? = some t → args[j]? = some v → Value.okWide Try.prog W .any base t v := hval0
  have hW' := hW
  obtain ⟨p, q, hA0, hV, rfl, hfz, hnd⟩ := hW
  have hA : DataW.TrodAll enc Try.prog W 0 (fun _ => true) true Try.f5.params.toList args.toList ds p := hA0
  rw [Try.params5] at hA hval
  obtain ⟨v0, vs0, d0, ds0, p0, q0, hargs, rfl, rfl, h0, r0⟩ := trodAll_cons hA
  obtain ⟨v1, vs1, d1, ds1, p1, q1, rfl, rfl, rfl, h1, r1⟩ := trodAll_cons r0
  obtain ⟨rfl, rfl, rfl⟩ := trodAll_nil r1
  obtain rfl : args = #[v0, v1] := by cases args; simp_all
  obtain ⟨rfl, rfl⟩ := trodVars_none hV
  obtain ⟨a0, rfl, rfl, rfl, w0⟩ := open_int Try.underlying22 (hval 0 22 v0 rfl rfl) h0
  obtain ⟨a1, rfl, rfl, rfl, w1⟩ := open_int Try.underlying5 (hval 1 5 v1 rfl rfl) h1
  clear hA0 hval0
  simp only [List.append_nil] at hW'
  refine (walk a0 a1 w0 w1 W).mono fun e W' ⟨he, hg⟩ => ?_
  subst he
  exact ⟨_, rfl, _, _, _, [], _, [], hW', (trodAll_cons_mk (shut_bool Try.underlying4 _) trodAll_mk0), (trodAll_cons_mk (shut_int Try.underlying22 w0) (trodAll_cons_mk (shut_int Try.underlying5 w1) trodAll_mk0)), rfl, hg.frame _, fun h => by cases h⟩

theorem over : Rows.swapBackRow.holds Try.pinned (OpenSpec.ofChange Rows.swapBackSpec) :=
  OpenClaim.holds_of_wide 5 Try.f5 rfl rfl rfl rfl rfl rfl rfl ⟨rfl, rfl, rfl, rfl, rfl⟩ rfl rfl rfl rfl rfl (by kernel_rfl) Try.func5 (by kernel_rfl)
    (of_decide_eq_true (by kernel_rfl)) (by unfold Func.isWrapper; first | (rw [if_pos (by decide +kernel)]; kernel_rfl) | (rw [if_neg (by decide +kernel)]; exact ⟨rfl, rfl⟩))
    (fun os started H enc _ => lifted os started H enc)

end Go.Proofs.Ytajlhnojhpomdaa.swapBack
namespace Go.Proofs.Ytajlhnojhpomdaa
theorem swapBack_holds : Rows.SwapBackSaid := swapBack.over
end Go.Proofs.Ytajlhnojhpomdaa
