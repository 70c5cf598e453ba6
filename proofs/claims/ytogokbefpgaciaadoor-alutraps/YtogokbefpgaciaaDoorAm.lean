/- What is proved here: the walk of AluTraps. -/
import Derived.Test.YtogokbefpgaciaaDoorAl
namespace Go.Proofs.YtogokbefpgaciaaDoor
open Go.RowKit
set_option linter.unusedVariables false
set_option linter.unusedSimpArgs false
set_option maxRecDepth 100000
theorem bit_one (b : Bool) : ((bitN b : Int) == 1) = b := by cases b <;> rfl
set_option maxHeartbeats 2000000 in
theorem traps_walk (s t : Nat) (hs : s < 4294967296) (ht : t < 4294967296) (w : World) (hT : Tab w) : Calls Tryd.prog 6 #[.int .u32 (s : Int), .int .u32 (t : Int)] w fun e w' => e = .returned (.bool true) ∧ Below w.heap.size w w' := by
  have K1 : Hid (∀ w, Tab w → Calls Tryd.prog 15 #[.string ⟨#[115, 108, 116]⟩, .int .u32 (s : Int), .int .u32 (t : Int)] w fun e w' => e = .returned (.tuple #[.int .u32 (bitN (decide (sg s < sg t)) : Int), .bool true]) ∧ Below w.heap.size w w') := fun w hT => by
    have K := of15 ⟨#[115, 108, 116]⟩ s t hs ht w hT
    rw [of_slt] at K
    exact K
  have K2 : Hid (∀ w, Tab w → Calls Tryd.prog 15 #[.string ⟨#[115, 108, 116, 117]⟩, .int .u32 (s : Int), .int .u32 (t : Int)] w fun e w' => e = .returned (.tuple #[.int .u32 (bitN (decide (s < t)) : Int), .bool true]) ∧ Below w.heap.size w w') := fun w hT => by
    have K := of15 ⟨#[115, 108, 116, 117]⟩ s t hs ht w hT
    rw [of_sltu] at K
    exact K
  have K3 : Hid (∀ w, Tab w → Calls Tryd.prog 15 #[.string ⟨#[115, 108, 116]⟩, .int .u32 (t : Int), .int .u32 (s : Int)] w fun e w' => e = .returned (.tuple #[.int .u32 (bitN (decide (sg t < sg s)) : Int), .bool true]) ∧ Below w.heap.size w w') := fun w hT => by
    have K := of15 ⟨#[115, 108, 116]⟩ t s ht hs w hT
    rw [of_slt] at K
    exact K
  have T_tge : Hid (∀ w, Calls Tryd.prog 12 #[.string ⟨#[116, 103, 101]⟩, .int .u32 (s : Int), .int .u32 (t : Int)] w fun e w' => e = .returned (.bool (decide (sg t ≤ sg s))) ∧ w' = w) := fun w => by
    have K := traps12 ⟨#[116, 103, 101]⟩ s t hs ht w
    rw [trap_tge] at K
    exact K
  have T_tgeu : Hid (∀ w, Calls Tryd.prog 12 #[.string ⟨#[116, 103, 101, 117]⟩, .int .u32 (s : Int), .int .u32 (t : Int)] w fun e w' => e = .returned (.bool (decide (t ≤ s))) ∧ w' = w) := fun w => by
    have K := traps12 ⟨#[116, 103, 101, 117]⟩ s t hs ht w
    rw [trap_tgeu] at K
    exact K
  have T_tlt : Hid (∀ w, Calls Tryd.prog 12 #[.string ⟨#[116, 108, 116]⟩, .int .u32 (s : Int), .int .u32 (t : Int)] w fun e w' => e = .returned (.bool (decide (sg s < sg t))) ∧ w' = w) := fun w => by
    have K := traps12 ⟨#[116, 108, 116]⟩ s t hs ht w
    rw [trap_tlt] at K
    exact K
  have T_tltu : Hid (∀ w, Calls Tryd.prog 12 #[.string ⟨#[116, 108, 116, 117]⟩, .int .u32 (s : Int), .int .u32 (t : Int)] w fun e w' => e = .returned (.bool (decide (s < t))) ∧ w' = w) := fun w => by
    have K := traps12 ⟨#[116, 108, 116, 117]⟩ s t hs ht w
    rw [trap_tltu] at K
    exact K
  have T_teq : Hid (∀ w, Calls Tryd.prog 12 #[.string ⟨#[116, 101, 113]⟩, .int .u32 (s : Int), .int .u32 (t : Int)] w fun e w' => e = .returned (.bool (s == t)) ∧ w' = w) := fun w => by
    have K := traps12 ⟨#[116, 101, 113]⟩ s t hs ht w
    rw [trap_teq] at K
    exact K
  have T_tne : Hid (∀ w, Calls Tryd.prog 12 #[.string ⟨#[116, 110, 101]⟩, .int .u32 (s : Int), .int .u32 (t : Int)] w fun e w' => e = .returned (.bool (s != t)) ∧ w' = w) := fun w => by
    have K := traps12 ⟨#[116, 110, 101]⟩ s t hs ht w
    rw [trap_tne] at K
    exact K
  have KA : Hid (∀ w, Tab w → Calls Tryd.prog 14 #[] w fun e w' => e = .returned (.bool true) ∧ Below w.heap.size w w') := fun w hT => awake14 w hT
  have HT : Hid (∀ w', Below w.heap.size w w' → Tab w') := fun w' h => hT.keep h
  have heq : ((s : Int) == (t : Int)) = (s == t) := eq_cast s t
  have hsg : (decide (sg s < sg t) = true ∧ decide (sg t ≤ sg s) = false ∧ decide (sg t < sg s) = false ∧ (s == t) = false) ∨ (decide (sg s < sg t) = false ∧ decide (sg t ≤ sg s) = true ∧ decide (sg t < sg s) = true ∧ (s == t) = false) ∨ (decide (sg s < sg t) = false ∧ decide (sg t ≤ sg s) = true ∧ decide (sg t < sg s) = false ∧ (s == t) = true) := by
    simp only [decide_eq_true_eq, decide_eq_false_iff_not, beq_iff_eq, beq_eq_false_iff_ne]
    unfold sg
    split <;> split <;> omega
  have hun : (decide (s < t) = true ∧ decide (t ≤ s) = false) ∨ (decide (s < t) = false ∧ decide (t ≤ s) = true) := by
    simp only [decide_eq_true_eq, decide_eq_false_iff_not]
    omega
  have hne : (s != t) = !(s == t) := rfl
  rw [hne] at T_tne
  generalize decide (sg s < sg t) = a at hsg K1 T_tlt
  generalize decide (sg t < sg s) = c at hsg K3
  generalize decide (sg t ≤ sg s) = a' at hsg T_tge
  generalize decide (s < t) = b at hun K2 T_tltu
  generalize decide (t ≤ s) = b' at hun T_tgeu
  obtain ⟨q, hq⟩ : ∃ q, (s == t) = q := ⟨_, rfl⟩
  rw [hq] at hsg heq T_teq T_tne
  clear hne hs ht
  rcases hsg with ⟨rfl, rfl, rfl, rfl⟩ | ⟨rfl, rfl, rfl, rfl⟩ | ⟨rfl, rfl, rfl, rfl⟩
  · have hn : ¬ s = t := by simpa using hq
    have hn2 : ¬ t = s := fun h => hn h.symm
    have hnb : ((s : Int) != (t : Int)) = true := by rw [bne, heq]; rfl
    clear hq
    rcases hun with ⟨rfl, rfl⟩ | ⟨rfl, rfl⟩
    all_goals
      simp only [bitN, if_true, if_false, Bool.false_eq_true, Bool.not_false, Bool.not_true] at K1 K2 K3 T_tne
      go_enter Tryd.func6, Tryd.ntmps6
      go_wp2_with fail
      refine (K1.out _ hT).mono ?_
      rintro e u1 ⟨rfl, b1⟩
      go_wp2_with fail
      refine (K2.out _ (HT.out _ b1)).mono ?_
      rintro e u2 ⟨rfl, b'⟩
      have b2 := below_tr b1 b'
      clear b'
      go_wp2_with fail
      refine (K3.out _ (HT.out _ b2)).mono ?_
      rintro e u3 ⟨rfl, b'⟩
      have b3 := below_tr b2 b'
      clear b'
      go_wp2_with fail
      refine (T_tge.out _).mono ?_
      rintro e w9 ⟨rfl, rfl⟩
      go_wp2_with fail
      refine (T_tlt.out _).mono ?_
      rintro e w9 ⟨rfl, rfl⟩
      go_wp2_with fail
      refine (T_tgeu.out _).mono ?_
      rintro e w9 ⟨rfl, rfl⟩
      go_wp2_with fail
      refine (T_tltu.out _).mono ?_
      rintro e w9 ⟨rfl, rfl⟩
      go_wp2_with fail
      refine (T_teq.out _).mono ?_
      rintro e w9 ⟨rfl, rfl⟩
      go_wp2_with fail
      refine (T_tne.out _).mono ?_
      rintro e w9 ⟨rfl, rfl⟩
      go_wp2_with fail
      refine (T_tlt.out _).mono ?_
      rintro e w9 ⟨rfl, rfl⟩
      go_wp2_with fail
      refine (T_tltu.out _).mono ?_
      rintro e w9 ⟨rfl, rfl⟩
      go_wp2_with fail
      refine (T_teq.out _).mono ?_
      rintro e w9 ⟨rfl, rfl⟩
      go_wp2_with fail
      refine (KA.out _ (HT.out _ b3)).mono ?_
      rintro e u4 ⟨rfl, b'⟩
      have HBE : Hid (Below w.heap.size w u4) := below_tr b3 b'
      clear b1 b2 b3 b'
      go_wp2
      go_ret
      exact ⟨rfl, HBE.out⟩
  · have hn : ¬ s = t := by simpa using hq
    have hn2 : ¬ t = s := fun h => hn h.symm
    have hnb : ((s : Int) != (t : Int)) = true := by rw [bne, heq]; rfl
    clear hq
    rcases hun with ⟨rfl, rfl⟩ | ⟨rfl, rfl⟩
    all_goals
      simp only [bitN, if_true, if_false, Bool.false_eq_true, Bool.not_false, Bool.not_true] at K1 K2 K3 T_tne
      go_enter Tryd.func6, Tryd.ntmps6
      go_wp2_with fail
      refine (K1.out _ hT).mono ?_
      rintro e u1 ⟨rfl, b1⟩
      go_wp2_with fail
      refine (K2.out _ (HT.out _ b1)).mono ?_
      rintro e u2 ⟨rfl, b'⟩
      have b2 := below_tr b1 b'
      clear b'
      go_wp2_with fail
      refine (K3.out _ (HT.out _ b2)).mono ?_
      rintro e u3 ⟨rfl, b'⟩
      have b3 := below_tr b2 b'
      clear b'
      go_wp2_with fail
      refine (T_tge.out _).mono ?_
      rintro e w9 ⟨rfl, rfl⟩
      go_wp2_with fail
      refine (T_tlt.out _).mono ?_
      rintro e w9 ⟨rfl, rfl⟩
      go_wp2_with fail
      refine (T_tgeu.out _).mono ?_
      rintro e w9 ⟨rfl, rfl⟩
      go_wp2_with fail
      refine (T_tltu.out _).mono ?_
      rintro e w9 ⟨rfl, rfl⟩
      go_wp2_with fail
      refine (T_teq.out _).mono ?_
      rintro e w9 ⟨rfl, rfl⟩
      go_wp2_with fail
      refine (T_tne.out _).mono ?_
      rintro e w9 ⟨rfl, rfl⟩
      go_wp2_with fail
      refine (T_tlt.out _).mono ?_
      rintro e w9 ⟨rfl, rfl⟩
      go_wp2_with fail
      refine (T_tltu.out _).mono ?_
      rintro e w9 ⟨rfl, rfl⟩
      go_wp2_with fail
      refine (T_teq.out _).mono ?_
      rintro e w9 ⟨rfl, rfl⟩
      go_wp2_with fail
      refine (KA.out _ (HT.out _ b3)).mono ?_
      rintro e u4 ⟨rfl, b'⟩
      have HBE : Hid (Below w.heap.size w u4) := below_tr b3 b'
      clear b1 b2 b3 b'
      go_wp2
      go_ret
      exact ⟨rfl, HBE.out⟩
  · have hn : s = t := by simpa using hq
    subst hn
    clear hq heq
    rcases hun with ⟨rfl, rfl⟩ | ⟨rfl, rfl⟩
    all_goals
      simp only [bitN, if_true, if_false, Bool.false_eq_true, Bool.not_false, Bool.not_true] at K1 K2 K3 T_tne
      go_enter Tryd.func6, Tryd.ntmps6
      go_wp2_with fail
      refine (K1.out _ hT).mono ?_
      rintro e u1 ⟨rfl, b1⟩
      go_wp2_with fail
      refine (K2.out _ (HT.out _ b1)).mono ?_
      rintro e u2 ⟨rfl, b'⟩
      have b2 := below_tr b1 b'
      clear b'
      go_wp2_with fail
      refine (K3.out _ (HT.out _ b2)).mono ?_
      rintro e u3 ⟨rfl, b'⟩
      have b3 := below_tr b2 b'
      clear b'
      go_wp2_with fail
      refine (T_tge.out _).mono ?_
      rintro e w9 ⟨rfl, rfl⟩
      go_wp2_with fail
      refine (T_tlt.out _).mono ?_
      rintro e w9 ⟨rfl, rfl⟩
      go_wp2_with fail
      refine (T_tgeu.out _).mono ?_
      rintro e w9 ⟨rfl, rfl⟩
      go_wp2_with fail
      refine (T_tltu.out _).mono ?_
      rintro e w9 ⟨rfl, rfl⟩
      go_wp2_with fail
      refine (T_teq.out _).mono ?_
      rintro e w9 ⟨rfl, rfl⟩
      go_wp2_with fail
      refine (T_tne.out _).mono ?_
      rintro e w9 ⟨rfl, rfl⟩
      go_wp2_with fail
      refine (T_tlt.out _).mono ?_
      rintro e w9 ⟨rfl, rfl⟩
      go_wp2_with fail
      refine (T_tltu.out _).mono ?_
      rintro e w9 ⟨rfl, rfl⟩
      go_wp2_with fail
      refine (T_teq.out _).mono ?_
      rintro e w9 ⟨rfl, rfl⟩
      go_wp2_with fail
      refine (KA.out _ (HT.out _ b3)).mono ?_
      rintro e u4 ⟨rfl, b'⟩
      have HBE : Hid (Below w.heap.size w u4) := below_tr b3 b'
      clear b1 b2 b3 b'
      go_wp2
      go_ret
      exact ⟨rfl, HBE.out⟩
end Go.Proofs.YtogokbefpgaciaaDoor
