/- What is proved here: the library's search by halves tells where a test that turns once turns. -/
import Derived.Test.YtolmcbnammhjjaaSl
import Derived.LoopTactic
namespace Go.Proofs.Ytolmcbnammhjjaa
open Go.RowKit
set_option linter.unusedVariables false
set_option maxHeartbeats 1000000 in
theorem search_any (g : Nat) (c1 c2 c3 : Value) (n m : Nat) (p : Nat → Bool) (w : World) (hn : n ≤ 4611686018427387904) (hm : m ≤ n)
    (hlo : ∀ i, i < m → p i = false) (hhi : ∀ i, m ≤ i → i < n → p i = true)
    (eg : ∀ args w, (callFunc g args).run Try.prog w = .ok (.enter g args) w)
    (hf : ∀ w1 (i : Nat), Below w.heap.size w w1 → i < n → Calls Try.prog g #[.int .i64 (i : Int), c1, c2, c3] w1 fun e w' => e = .returned (.bool (p i)) ∧ Below w1.heap.size w1 w') :
    Calls Try.prog 55 #[.int .i64 (n : Int), .func (.func g) #[] #[c1, c2, c3]] w fun e w' => e = .returned (.int .i64 (m : Int)) ∧ Below w.heap.size w w' := by
  have HF : Hid _ := hf
  have HL : Hid _ := hlo
  have HH : Hid _ := hhi
  clear hf hlo hhi
  go_enter Try.func55, Try.ntmps55
  go_wp2
  go_loopw [5, 6] (fun a b wr => ∃ i j : Nat, a = .int .i64 (i : Int) ∧ b = .int .i64 (j : Int) ∧ i ≤ m ∧ m ≤ j ∧ j ≤ n ∧ Below w.heap.size w wr)
    (fun a b _ => (intOf b).toNat - (intOf a).toNat)
  case atStart => exact ⟨0, n, rfl, rfl, Nat.zero_le _, hm, Nat.le_refl _, Below.refl _ _⟩
  case round =>
    obtain ⟨i, j, rfl, rfl, h1, h2, h3, hb⟩ := hrel
    by_cases hij : i < j
    · go_wp2_with fail
      rw [show ((i : Int) + (j : Int)) / 2 = (((i + j) / 2 : Nat) : Int) by omega]
      obtain ⟨h, hh⟩ : ∃ h, h = (i + j) / 2 := ⟨_, rfl⟩
      rw [← hh]
      have g1 : i ≤ h := by omega
      have g2 : h < j := by omega
      clear hh
      refine (HF.out wr h hb (by omega)).mono ?_
      rintro e w1 ⟨rfl, hb1⟩
      by_cases hp : h < m
      · rw [HL.out h hp]
        go_wp2
        go_roundw
        case rel => exact ⟨h + 1, j, by go_num, rfl, by omega, h2, h3, below_tr hb hb1⟩
        case measure => simp [intOf]; omega
      · rw [HH.out h (by omega) (by omega)]
        go_wp2
        go_roundw
        case rel => exact ⟨i, h, rfl, rfl, h1, by omega, by omega, below_tr hb hb1⟩
        case measure => simp [intOf]; omega
    · go_wp2
      go_ret
      obtain rfl : i = m := by omega
      exact ⟨rfl, hb⟩
end Go.Proofs.Ytolmcbnammhjjaa
