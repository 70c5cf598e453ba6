/- What is proved here: a cell whose bits are others is added, if it is not 0. -/
import Derived.Test.YtolmcbnammhjjaaHeld
import Derived.Test.YtolmcbnammhjjaaWord
namespace Go.Proofs.Ytolmcbnammhjjaa
open Go.RowKit
set_option linter.unusedVariables false
/-- A word of which some bits are another's. -/
def nowN (old mask v : Nat) : Nat := clr old mask ||| (v &&& mask)
/-- The cell, if it is not 0. -/
def cellIf (a now : Nat) : List (Nat × Int) := if now = 0 then [] else [(a, (now : Int))]
theorem nowN_lt (old mask v : Nat) (h1 : old < 18446744073709551616) (h2 : mask < 18446744073709551616) : nowN old mask v < 18446744073709551616 := by
  have a : clr old mask < 2 ^ 64 := Nat.lt_of_le_of_lt Nat.and_le_left h1
  have b : (v &&& mask) < 2 ^ 64 := Nat.lt_of_le_of_lt Nat.and_le_right h2
  exact Nat.or_lt_two_pow a b
set_option maxHeartbeats 1000000 in
theorem changed49 (cv : Value) (xs : List (Nat × Int)) (a old mask v B : Nat) (w : World) (hown : w.ownsRow B 58 2 cv xs.length (rowOf .u64 xs)) (hB : B ≤ w.heap.size) (hl : xs.length ≤ 1073741823)
    (h1 : old < 18446744073709551616) (h2 : mask < 18446744073709551616) (h3 : v < 18446744073709551616) :
    Calls Try.prog 49 #[cv, .int .u64 (a : Int), .int .u64 (old : Int), .int .u64 (mask : Int), .int .u64 (v : Int)] w
      fun e w' => ∃ cv', e = .returned cv' ∧ w'.ownsRow B 58 2 cv' (xs ++ cellIf a (nowN old mask v)).length (rowOf .u64 (xs ++ cellIf a (nowN old mask v))) ∧ Below B w w' ∧ w.heap.size ≤ w'.heap.size := by
  have e1 : bits .andNot .u64 (old : Int) (mask : Int) = ((clr old mask : Nat) : Int) := andNot64 old mask h1 h2
  have e2 : bits .and .u64 (v : Int) (mask : Int) = ((v &&& mask : Nat) : Int) := and64 v mask h3 h2
  have e3 : bits .or .u64 ((clr old mask : Nat) : Int) ((v &&& mask : Nat) : Int) = ((nowN old mask v : Nat) : Int) := or64 _ _ (Nat.lt_of_le_of_lt Nat.and_le_left h1) (Nat.lt_of_le_of_lt Nat.and_le_right h2)
  generalize nowN old mask v = now at e3 ⊢
  generalize clr old mask = c at e1 e3
  generalize (v &&& mask) = d at e2 e3
  obtain ⟨i0, hi, hz0, hz1, hz2⟩ := info_parts info58
  by_cases h0 : now = 0
  · subst h0
    go_enter Try.func49, Try.ntmps49
    go_wp2
    go_ret
    exact ⟨_, rfl, by simpa [cellIf] using hown, Below.refl _ _, Nat.le_refl _⟩
  · have hne : ((now : Int) != 0) = true := by simp; omega
    have HI : Hid (Try.prog.info? 58 = some i0 ∧ i0.zero = some (.agg #[.int .u64 0, .int .u64 0]) ∧ i0.size = 2 ∧ i0.bytes = 16) := ⟨hi, hz0, hz1, hz2⟩
    have HO : Hid (w.ownsRow B 58 2 cv xs.length (rowOf .u64 xs)) := hown
    have H0 : Hid (¬ now = 0) := h0
    clear hi hz0 hz1 hz2 hown h0
    go_enter Try.func49, Try.ntmps49
    go_wp2_with (at_builtin; refine wpList_append_own _ rfl (.tmp 21) (.tmp 25) 23 rfl B 58 i0 _ 2 16 Try.underlying23 HI.out.1 HI.out.2.1 HI.out.2.2.1 HI.out.2.2.2 rfl (by decide) _ _ _ rfl (own_alloc HO.out _) ⟨w.heap.size, 0, none⟩ 1 1 [.int .u64 (a : Int), .int .u64 (now : Int)] rfl rfl ?c1 ?c2 (by unfold maxLen; omega) (by omega) (by simp; omega) ?_)
    case c1 =>
      intro j u hj
      match j, hj with
      | 0, hj => simp at hj; subst hj; simp [Addr.add]
      | 1, hj => simp at hj; subst hj; simp [Addr.add]
    case c2 => intro u hu; simp at hu; rcases hu with rfl | rfl <;> rfl
    intro cv' w1 hown' hgrow _
    have R1 : w1.ownsRow B 58 2 cv' (xs ++ cellIf a now).length (rowOf .u64 (xs ++ cellIf a now)) := by
      have e : cellIf a now = [(a, (now : Int))] := by rw [cellIf, if_neg H0.out]
      rw [e, rowOf_append]
      simpa [rowOf] using hown'
    have R2 : Below B w w1 := (((Below.refl B w).alloc hB _).grown hgrow (by simp; omega) (own_ge HO.out))
    have R3 := R2.size
    clear hown' hgrow
    go_wp2
    go_ret
    exact ⟨_, rfl, R1, R2, R3⟩
end Go.Proofs.Ytolmcbnammhjjaa
