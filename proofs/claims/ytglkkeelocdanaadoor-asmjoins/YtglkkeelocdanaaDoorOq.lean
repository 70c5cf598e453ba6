/- What is proved here: the words of two texts, one behind the other: AsmJoins's walk. -/
import Derived.Test.YtglkkeelocdanaaDoorOg
import Derived.Test.YtglkkeelocdanaaDoorNwJ
namespace Go.Proofs.YtglkkeelocdanaaDoor
open Go.RowKit
set_option linter.unusedVariables false
set_option linter.unusedSimpArgs false
set_option maxRecDepth 100000
theorem spl_ne : ∀ a : L8, spl a ≠ []
  | [] => by simp [spl]
  | c :: t => by
    rw [spl]
    split
    · simp
    · split <;> simp
theorem spl_app : ∀ (a b : L8), spl (a ++ 10 :: b) = spl a ++ spl b
  | [], b => by simp [spl]
  | c :: t, b => by
    rw [List.cons_append, spl, spl]
    by_cases hc : c = 10
    · rw [if_pos hc, if_pos hc, spl_app t b, List.cons_append]
    · rw [if_neg hc, if_neg hc, spl_app t b]
      cases hs : spl t with
      | nil => exact absurd hs (spl_ne t)
      | cons h r => rfl
theorem numd_app : ∀ (n : Nat) (xs ys : List L8), numd n (xs ++ ys) = numd n xs ++ numd (n + xs.length) ys
  | n, [], ys => by simp [numd]
  | n, x :: xs, ys => by
    rw [List.cons_append, numd, numd, numd_app (n + 1) xs ys, List.cons_append, List.length_cons, show n + (xs.length + 1) = n + 1 + xs.length by omega]
/-- Lines come to their words behind what is there; or to none, at a line. -/
theorem asm_cases : ∀ (xs : List (Nat × L8)), (∃ b, ∀ o t, asmN (xs ++ t) o = asmN t (o ++ b)) ∨ (∃ k, ∀ o t, asmN (xs ++ t) o = ([], k, 110))
  | [] => .inl ⟨[], fun o t => by simp⟩
  | x :: xs => by
    cases hw : hasW x.2 with
    | false =>
      rcases asm_cases xs with ⟨b, h⟩ | ⟨k, h⟩
      · exact .inl ⟨b, fun o t => by rw [List.cons_append, asmN, hw, if_neg (by decide), h]⟩
      · exact .inr ⟨k, fun o t => by rw [List.cons_append, asmN, hw, if_neg (by decide), h]⟩
    | true =>
      cases hc : codeR x.2 with
      | none => exact .inr ⟨x.1, fun o t => by rw [List.cons_append, asmN, hw, if_pos rfl, hc]⟩
      | some c =>
        rcases asm_cases xs with ⟨b, h⟩ | ⟨k, h⟩
        · exact .inl ⟨c ++ b, fun o t => by rw [List.cons_append, asmN, hw, if_pos rfl, hc]; simp only []; rw [h, List.append_assoc]⟩
        · exact .inr ⟨k, fun o t => by rw [List.cons_append, asmN, hw, if_pos rfl, hc]; simp only []; rw [h]⟩
/-- The numbers of lines play no part in their words. -/
theorem asm_num : ∀ (xs : List L8) (n m : Nat) (o : L8), (asmN (numd n xs) o).1 = (asmN (numd m xs) o).1 ∧ (asmN (numd n xs) o).2.2 = (asmN (numd m xs) o).2.2
  | [], n, m, o => ⟨rfl, rfl⟩
  | x :: xs, n, m, o => by
    rw [numd, numd, asmN, asmN]
    simp only []
    cases hasW x with
    | false => exact asm_num xs (n + 1) (m + 1) o
    | true =>
      cases codeR x with
      | none => exact ⟨rfl, rfl⟩
      | some c => exact asm_num xs (n + 1) (m + 1) _
/-- What stands between the two texts. -/
def noteL : L8 := [10, 10, 35, 32, 110, 111, 116, 101, 10]
theorem spl_note (a b : L8) : spl (a ++ noteL ++ b) = spl a ++ ([[], [35, 32, 110, 111, 116, 101]] ++ spl b) := by
  have e : a ++ noteL ++ b = a ++ 10 :: ([] ++ 10 :: ([35, 32, 110, 111, 116, 101] ++ 10 :: b)) := by simp [noteL]
  rw [e, spl_app, spl_app, spl_app]
  rfl
/-- The words of both. -/
theorem asm_join (a b : L8) : ((asmL a).2.2 = 0 ∧ (asmL b).2.2 = 0 ∧ (asmL (a ++ noteL ++ b)).2.2 = 0 ∧ (asmL (a ++ noteL ++ b)).1 = (asmL a).1 ++ (asmL b).1) ∨
    (((asmL a).2.2 = 110 ∨ (asmL b).2.2 = 110) ∧ (asmL (a ++ noteL ++ b)).2.2 = 110 ∧ (asmL (a ++ noteL ++ b)).1 = []) ∧ ((asmL a).2.2 = 0 ∨ (asmL a).2.2 = 110) ∧ ((asmL b).2.2 = 0 ∨ (asmL b).2.2 = 110) := by
  rw [asmL_spl, asmL_spl, asmL_spl, spl_note, numd_app]
  have hz : ∀ (n : Nat) (o : L8), asmN (numd n ([[], [35, 32, 110, 111, 116, 101]] ++ spl b)) o = asmN (numd (n + 2) (spl b)) o := fun n o => by
    show asmN ((n, []) :: (n + 1, [35, 32, 110, 111, 116, 101]) :: numd (n + 2) (spl b)) o = _
    rw [asmN, asmN]
    rfl
  rcases asm_cases (numd 0 (spl a)) with ⟨x, hx⟩ | ⟨k, hx⟩
  · have h1 := hx [] []
    rw [List.append_nil, List.nil_append, asmN] at h1
    rw [h1, hx, hz, List.nil_append]
    rcases asm_cases (numd 0 (spl b)) with ⟨y, hy⟩ | ⟨k, hy⟩
    · have h2 := hy [] []
      have h3 := hy x []
      rw [List.append_nil, List.nil_append, asmN] at h2
      rw [List.append_nil, asmN] at h3
      have h4 := asm_num (spl b) (0 + (spl a).length + 2) 0 x
      rw [h3] at h4
      rw [h2]
      exact .inl ⟨rfl, rfl, h4.2, h4.1⟩
    · have h2 := hy [] []
      have h3 := hy x []
      rw [List.append_nil] at h2 h3
      have h4 := asm_num (spl b) (0 + (spl a).length + 2) 0 x
      rw [h3] at h4
      rw [h2]
      exact .inr ⟨⟨.inr rfl, h4.2, h4.1⟩, .inl rfl, .inr rfl⟩
  · have h1 := hx [] []
    rw [List.append_nil] at h1
    rw [h1, hx]
    refine .inr ⟨⟨.inl rfl, rfl, rfl⟩, .inr rfl, ?_⟩
    rcases asm_cases (numd 0 (spl b)) with ⟨y, hy⟩ | ⟨k, hy⟩
    · have h2 := hy [] []
      rw [List.append_nil, List.nil_append, asmN] at h2
      rw [h2]
      exact .inl rfl
    · have h2 := hy [] []
      rw [List.append_nil] at h2
      rw [h2]
      exact .inr rfl
end Go.Proofs.YtglkkeelocdanaaDoor
