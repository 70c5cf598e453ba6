/- What is proved here: the walks of AluBack and AluTraps. -/
import Derived.Test.YtogokbefpgaciaaDoorAk
namespace Go.Proofs.YtogokbefpgaciaaDoor
open Go.RowKit
set_option linter.unusedVariables false
set_option linter.unusedSimpArgs false
set_option maxRecDepth 100000
theorem or_not (s : Nat) (h : s < 4294967296) : s ||| (4294967295 - s) = 4294967295 := by
  apply Nat.eq_of_testBit_eq
  intro i
  rw [Nat.testBit_or, show 4294967295 - s = 2 ^ 32 - (s + 1) from by omega, Nat.testBit_two_pow_sub_succ (show s < 2 ^ 32 from h), show (4294967295 : Nat) = 2 ^ 32 - 1 from rfl, Nat.testBit_two_pow_sub_one]
  by_cases hi : i < 32
  · simp [hi]
  · have : s.testBit i = false := Nat.testBit_lt_two_pow (Nat.lt_of_lt_of_le h (Nat.pow_le_pow_right (show 2 > 0 by decide) (show 32 ≤ i by omega)))
    simp [hi, this]
theorem and_not (s : Nat) (h : s < 4294967296) : (4294967295 - s) &&& s = 0 := by
  apply Nat.eq_of_testBit_eq
  intro i
  rw [Nat.testBit_and, show 4294967295 - s = 2 ^ 32 - (s + 1) from by omega, Nat.testBit_two_pow_sub_succ (show s < 2 ^ 32 from h), Nat.zero_testBit]
  by_cases hi : i < 32
  · simp [hi]
  · have : s.testBit i = false := Nat.testBit_lt_two_pow (Nat.lt_of_lt_of_le h (Nat.pow_le_pow_right (show 2 > 0 by decide) (show 32 ≤ i by omega)))
    simp [this]
theorem sub_add (s t : Nat) (hs : s < 4294967296) (ht : t < 4294967296) : ((s + t) % 4294967296 + (4294967296 - t)) % 4294967296 = s := by omega
/-- What was added with signs is taken away again. -/
theorem over_back (s t : Nat) (hs : s < 4294967296) (ht : t < 4294967296) :
    (chk (sg s + sg t) = some ((s + t) % 4294967296) ∧ chk (sg ((s + t) % 4294967296) - sg t) = some s ∧ sg s + sg t = sg ((s + t) % 4294967296)) ∨
    (chk (sg s + sg t) = none ∧ chk (sg ((s + t) % 4294967296) - sg t) = none ∧ ¬ sg s + sg t = sg ((s + t) % 4294967296)) := by
  obtain ⟨A, hA⟩ : ∃ A, A = (s + t) % 4294967296 := ⟨_, rfl⟩
  rw [← hA]
  have lA : A < 4294967296 := by omega
  by_cases hc : -2147483648 ≤ sg s + sg t ∧ sg s + sg t ≤ 2147483647
  · have e : sg s + sg t = sg A := by
      revert hc; unfold sg; intro hc; split at hc <;> split at hc <;> split <;> omega
    have e2 : sg A - sg t = sg s := by omega
    refine .inl ⟨?_, ?_, e⟩
    · rw [chk, if_pos hc, e]
      congr 1
      unfold outN sg
      split <;> omega
    · have := sg_lo s hs
      rw [chk, if_pos (by omega), e2]
      congr 1
      unfold outN sg
      split <;> omega
  · have l1 := sg_lo A lA
    refine .inr ⟨by rw [chk, if_neg hc], ?_, by omega⟩
    rw [chk, if_neg]
    intro h2
    revert hc h2
    unfold sg
    split <;> split <;> split <;> omega
set_option maxHeartbeats 2000000 in
theorem back_walk (s t : Nat) (hs : s < 4294967296) (ht : t < 4294967296) (w : World) (hT : Tab w) : Calls Tryd.prog 4 #[.int .u32 (s : Int), .int .u32 (t : Int)] w fun e w' => e = .returned (.bool true) ∧ Below w.heap.size w w' := by
  obtain ⟨A, hA⟩ : ∃ A, A = (s + t) % 4294967296 := ⟨_, rfl⟩
  have lA : A < 4294967296 := by omega
  obtain ⟨N, hN⟩ : ∃ N, N = 4294967295 - s := ⟨_, rfl⟩
  have lN : N < 4294967296 := by omega
  have hob := over_back s t hs ht
  rw [← hA] at hob
  have K1 : Hid (∀ w, Tab w → Calls Tryd.prog 15 #[.string ⟨#[97, 100, 100, 117]⟩, .int .u32 (s : Int), .int .u32 (t : Int)] w fun e w' => e = .returned (.tuple #[.int .u32 (A : Int), .bool true]) ∧ Below w.heap.size w w') := fun w hT => by
    have K := of15 ⟨#[97, 100, 100, 117]⟩ s t hs ht w hT
    rw [of_addu, show workN 3 (tkOf (ofI ⟨#[97, 100, 100, 117]⟩) s t) = some A from by rw [hA]; rfl] at K
    exact K
  have K2 : Hid (∀ w, Tab w → Calls Tryd.prog 15 #[.string ⟨#[115, 117, 98, 117]⟩, .int .u32 (A : Int), .int .u32 (t : Int)] w fun e w' => e = .returned (.tuple #[.int .u32 (s : Int), .bool true]) ∧ Below w.heap.size w w') := fun w hT => by
    have K := of15 ⟨#[115, 117, 98, 117]⟩ A t lA ht w hT
    rw [of_subu, show workN 4 (tkOf (ofI ⟨#[115, 117, 98, 117]⟩) A t) = some s from by show some ((A + (4294967296 - t)) % 4294967296) = _; rw [hA, sub_add s t hs ht]] at K
    exact K
  have K3 : Hid (∀ w, Tab w → Calls Tryd.prog 15 #[.string ⟨#[97, 100, 100]⟩, .int .u32 (s : Int), .int .u32 (t : Int)] w fun e w' => e = .returned (.tuple #[.int .u32 ((chk (sg s + sg t)).getD 0 : Int), .bool (chk (sg s + sg t)).isSome]) ∧ Below w.heap.size w w') := fun w hT => by
    have K := of15 ⟨#[97, 100, 100]⟩ s t hs ht w hT
    rw [of_add] at K
    exact K
  have K4 : Hid (∀ w, Tab w → Calls Tryd.prog 15 #[.string ⟨#[115, 117, 98]⟩, .int .u32 (A : Int), .int .u32 (t : Int)] w fun e w' => e = .returned (.tuple #[.int .u32 ((chk (sg A - sg t)).getD 0 : Int), .bool (chk (sg A - sg t)).isSome]) ∧ Below w.heap.size w w') := fun w hT => by
    have K := of15 ⟨#[115, 117, 98]⟩ A t lA ht w hT
    rw [of_sub] at K
    exact K
  have K5 : Hid (∀ w, Tab w → Calls Tryd.prog 15 #[.string ⟨#[110, 111, 114]⟩, .int .u32 (s : Int), .int .u32 (s : Int)] w fun e w' => e = .returned (.tuple #[.int .u32 (N : Int), .bool true]) ∧ Below w.heap.size w w') := fun w hT => by
    have K := of15 ⟨#[110, 111, 114]⟩ s s hs hs w hT
    rw [of_nor, show workN 9 (tkOf (ofI ⟨#[110, 111, 114]⟩) s s) = some N from by show some (4294967295 - (s ||| s)) = _; rw [Nat.or_self, hN]] at K
    exact K
  have K6 : Hid (∀ w, Tab w → Calls Tryd.prog 15 #[.string ⟨#[111, 114]⟩, .int .u32 (s : Int), .int .u32 (N : Int)] w fun e w' => e = .returned (.tuple #[.int .u32 4294967295, .bool true]) ∧ Below w.heap.size w w') := fun w hT => by
    have K := of15 ⟨#[111, 114]⟩ s N hs lN w hT
    rw [of_or, show workN 7 (tkOf (ofI ⟨#[111, 114]⟩) s N) = some 4294967295 from by show some (s ||| N) = _; rw [hN, or_not s hs]] at K
    exact K
  have KA : Hid (∀ w, Tab w → Calls Tryd.prog 14 #[] w fun e w' => e = .returned (.bool true) ∧ Below w.heap.size w w') := fun w hT => awake14 w hT
  have hand : bits .and .u32 (N : Int) (s : Int) = 0 := by rw [and_u32 N s lN hs, hN, and_not s hs]; rfl
  have HT : Hid (∀ w', Below w.heap.size w w' → Tab w') := fun w' h => hT.keep h
  have w1 := sg_wrap s hs
  have w2 := sg_wrap t ht
  have w3 := sg_wrap A lA
  have l1 := sg_lo s hs
  have l2 := sg_lo t ht
  have l3 := sg_lo A lA
  have v1 : wrap64 (sg s) = sg s := by unfold wrap64; omega
  have v2 : wrap64 (sg t) = sg t := by unfold wrap64; omega
  have v3 : wrap64 (sg A) = sg A := by unfold wrap64; omega
  have v4 : wrap64 (sg s + sg t) = sg s + sg t := by unfold wrap64; omega
  generalize chk (sg s + sg t) = C at hob K3
  generalize chk (sg A - sg t) = D at hob K4
  generalize sg s = p at hob w1 v1 v4
  generalize sg t = q at hob w2 v2 v4
  generalize sg A = r at hob w3 v3
  clear hA hN lA lN l1 l2 l3 hs ht
  rcases hob with ⟨rfl, rfl, he⟩ | ⟨rfl, rfl, he⟩
  · have hd : (p + q == r) = true := by rw [he]; exact beq_self_eq_true _
    clear he
    go_enter Tryd.func4, Tryd.ntmps4
    go_wp2_with fail
    refine (K1.out _ hT).mono ?_
    rintro e u1 ⟨rfl, b1⟩
    go_wp2_with fail
    refine (K2.out _ (HT.out _ b1)).mono ?_
    rintro e u2 ⟨rfl, b'⟩
    have b2 := below_tr b1 b'
    clear b'
    go_wp2_with fail
    refine (K3.out _ (HT.out _ b2)).mono ?_
    rintro e u3 ⟨rfl, b'⟩
    have b3 := below_tr b2 b'
    clear b'
    go_wp2_with fail
    refine (K4.out _ (HT.out _ b3)).mono ?_
    rintro e u4 ⟨rfl, b'⟩
    have b4 := below_tr b3 b'
    clear b'
    go_wp2_with fail
    refine (K5.out _ (HT.out _ b4)).mono ?_
    rintro e u5 ⟨rfl, b'⟩
    have b5 := below_tr b4 b'
    clear b'
    go_wp2_with fail
    refine (K6.out _ (HT.out _ b5)).mono ?_
    rintro e u6 ⟨rfl, b'⟩
    have b6 := below_tr b5 b'
    clear b'
    go_wp2_with fail
    refine (KA.out _ (HT.out _ b6)).mono ?_
    rintro e u7 ⟨rfl, b'⟩
    have b7 := below_tr b6 b'
    clear b'
    have HBE : Hid (Below w.heap.size w u7) := b7
    clear b1 b2 b3 b4 b5 b6 b7
    go_wp2
    go_ret
    exact ⟨rfl, HBE.out⟩
  · have hd : (p + q == r) = false := beq_eq_false_iff_ne.2 he
    clear he
    go_enter Tryd.func4, Tryd.ntmps4
    go_wp2_with fail
    refine (K1.out _ hT).mono ?_
    rintro e u1 ⟨rfl, b1⟩
    go_wp2_with fail
    refine (K2.out _ (HT.out _ b1)).mono ?_
    rintro e u2 ⟨rfl, b'⟩
    have b2 := below_tr b1 b'
    clear b'
    go_wp2_with fail
    refine (K3.out _ (HT.out _ b2)).mono ?_
    rintro e u3 ⟨rfl, b'⟩
    have b3 := below_tr b2 b'
    clear b'
    go_wp2_with fail
    refine (K4.out _ (HT.out _ b3)).mono ?_
    rintro e u4 ⟨rfl, b'⟩
    have b4 := below_tr b3 b'
    clear b'
    go_wp2_with fail
    refine (K5.out _ (HT.out _ b4)).mono ?_
    rintro e u5 ⟨rfl, b'⟩
    have b5 := below_tr b4 b'
    clear b'
    go_wp2_with fail
    refine (K6.out _ (HT.out _ b5)).mono ?_
    rintro e u6 ⟨rfl, b'⟩
    have b6 := below_tr b5 b'
    clear b'
    go_wp2_with fail
    refine (KA.out _ (HT.out _ b6)).mono ?_
    rintro e u7 ⟨rfl, b'⟩
    have b7 := below_tr b6 b'
    clear b'
    have HBE : Hid (Below w.heap.size w u7) := b7
    clear b1 b2 b3 b4 b5 b6 b7
    go_wp2
    go_ret
    exact ⟨rfl, HBE.out⟩
end Go.Proofs.YtogokbefpgaciaaDoor
