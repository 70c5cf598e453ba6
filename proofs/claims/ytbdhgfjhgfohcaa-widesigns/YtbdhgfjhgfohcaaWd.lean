/- What is proved here: wide's Do and Known for any name; the document's Do and Known. -/
import Derived.Test.YtbdhgfjhgfohcaaWc
namespace Go.Proofs.Ytbdhgfjhgfohcaa
open Go.RowKit
set_option linter.unusedVariables false
set_option linter.unusedSimpArgs false
set_option maxRecDepth 100000
theorem idx_0 : wIdx ⟨#[109, 117, 108, 116]⟩ = some 0 := by decide +kernel
theorem idx_1 : wIdx ⟨#[109, 117, 108, 116, 117]⟩ = some 1 := by decide +kernel
theorem idx_2 : wIdx ⟨#[109, 97, 100, 100]⟩ = some 2 := by decide +kernel
theorem idx_3 : wIdx ⟨#[109, 97, 100, 100, 117]⟩ = some 3 := by decide +kernel
theorem idx_4 : wIdx ⟨#[109, 115, 117, 98]⟩ = some 4 := by decide +kernel
theorem idx_5 : wIdx ⟨#[109, 115, 117, 98, 117]⟩ = some 5 := by decide +kernel
theorem idx_6 : wIdx ⟨#[100, 105, 118]⟩ = some 6 := by decide +kernel
theorem idx_7 : wIdx ⟨#[100, 105, 118, 117]⟩ = some 7 := by decide +kernel
theorem idx_8 : wIdx ⟨#[109, 116, 104, 105]⟩ = some 8 := by decide +kernel
theorem idx_9 : wIdx ⟨#[109, 116, 108, 111]⟩ = some 9 := by decide +kernel
theorem do_at {n : ByteArray} {k : Nat} (h : wIdx n = some k) (s t hi lo : Nat) : doN n s t hi lo = (workN k s t (hi * 4294967296 + lo) / 4294967296, workN k s t (hi * 4294967296 + lo) % 4294967296) := by
  unfold doN; rw [h]
theorem do_no {n : ByteArray} (h : wIdx n = none) (s t hi lo : Nat) : doN n s t hi lo = (hi, lo) := by
  unfold doN; rw [h]
theorem do_lt (n : ByteArray) (s t hi lo : Nat) (hs : s < 4294967296) (ht : t < 4294967296) (hh : hi < 4294967296) (hl : lo < 4294967296) : (doN n s t hi lo).1 < 4294967296 ∧ (doN n s t hi lo).2 < 4294967296 := by
  unfold doN
  split
  · rename_i k _
    have := work_lt k s t (hi * 4294967296 + lo) hs ht (by omega)
    exact ⟨by show _ / _ < _; omega, by show _ % _ < _; omega⟩
  · exact ⟨hh, hl⟩
/-- Either a name of wide, or none. -/
theorem idx_cases (n : ByteArray) : n = ⟨#[109, 117, 108, 116]⟩ ∨ n = ⟨#[109, 117, 108, 116, 117]⟩ ∨ n = ⟨#[109, 97, 100, 100]⟩ ∨ n = ⟨#[109, 97, 100, 100, 117]⟩ ∨ n = ⟨#[109, 115, 117, 98]⟩ ∨ n = ⟨#[109, 115, 117, 98, 117]⟩ ∨ n = ⟨#[100, 105, 118]⟩ ∨ n = ⟨#[100, 105, 118, 117]⟩ ∨ n = ⟨#[109, 116, 104, 105]⟩ ∨ n = ⟨#[109, 116, 108, 111]⟩ ∨ wIdx n = none := by
  unfold wIdx
  by_cases h0 : n = ⟨#[109, 117, 108, 116]⟩
  · exact (.inl h0)
  rw [if_neg h0]
  by_cases h1 : n = ⟨#[109, 117, 108, 116, 117]⟩
  · exact .inr ((.inl h1))
  rw [if_neg h1]
  by_cases h2 : n = ⟨#[109, 97, 100, 100]⟩
  · exact .inr (.inr ((.inl h2)))
  rw [if_neg h2]
  by_cases h3 : n = ⟨#[109, 97, 100, 100, 117]⟩
  · exact .inr (.inr (.inr ((.inl h3))))
  rw [if_neg h3]
  by_cases h4 : n = ⟨#[109, 115, 117, 98]⟩
  · exact .inr (.inr (.inr (.inr ((.inl h4)))))
  rw [if_neg h4]
  by_cases h5 : n = ⟨#[109, 115, 117, 98, 117]⟩
  · exact .inr (.inr (.inr (.inr (.inr ((.inl h5))))))
  rw [if_neg h5]
  by_cases h6 : n = ⟨#[100, 105, 118]⟩
  · exact .inr (.inr (.inr (.inr (.inr (.inr ((.inl h6)))))))
  rw [if_neg h6]
  by_cases h7 : n = ⟨#[100, 105, 118, 117]⟩
  · exact .inr (.inr (.inr (.inr (.inr (.inr (.inr ((.inl h7))))))))
  rw [if_neg h7]
  by_cases h8 : n = ⟨#[109, 116, 104, 105]⟩
  · exact .inr (.inr (.inr (.inr (.inr (.inr (.inr (.inr ((.inl h8)))))))))
  rw [if_neg h8]
  by_cases h9 : n = ⟨#[109, 116, 108, 111]⟩
  · exact .inr (.inr (.inr (.inr (.inr (.inr (.inr (.inr (.inr ((.inl h9))))))))))
  rw [if_neg h9]
  exact .inr (.inr (.inr (.inr (.inr (.inr (.inr (.inr (.inr (.inr (rfl))))))))))
theorem do8 (n : ByteArray) (s t hi lo : Nat) (hs : s < 4294967296) (ht : t < 4294967296) (hh : hi < 4294967296) (hl : lo < 4294967296) (w : World) : Calls Try.prog 8 #[.string n, .int .u32 (s : Int), .int .u32 (t : Int), .int .u32 (hi : Int), .int .u32 (lo : Int)] w fun e w' => DoIs n s t hi lo e ∧ Below w.heap.size w w' := by
  rcases idx_cases n with h | h | h | h | h | h | h | h | h | h | h
  · subst h
    unfold DoIs
    rw [do_at idx_0]
    exact do8_0 s t hi lo hs ht hh hl w
  · subst h
    unfold DoIs
    rw [do_at idx_1]
    exact do8_1 s t hi lo hs ht hh hl w
  · subst h
    unfold DoIs
    rw [do_at idx_2]
    exact do8_2 s t hi lo hs ht hh hl w
  · subst h
    unfold DoIs
    rw [do_at idx_3]
    exact do8_3 s t hi lo hs ht hh hl w
  · subst h
    unfold DoIs
    rw [do_at idx_4]
    exact do8_4 s t hi lo hs ht hh hl w
  · subst h
    unfold DoIs
    rw [do_at idx_5]
    exact do8_5 s t hi lo hs ht hh hl w
  · subst h
    unfold DoIs
    rw [do_at idx_6]
    exact do8_6 s t hi lo hs ht hh hl w
  · subst h
    unfold DoIs
    rw [do_at idx_7]
    exact do8_7 s t hi lo hs ht hh hl w
  · subst h
    unfold DoIs
    rw [do_at idx_8]
    exact do8_8 s t hi lo hs ht hh hl w
  · subst h
    unfold DoIs
    rw [do_at idx_9]
    exact do8_9 s t hi lo hs ht hh hl w
  · unfold DoIs
    rw [do_no h]
    exact do8_no n (none_of h) s t hi lo w
theorem known10 (n : ByteArray) (w : World) : Calls Try.prog 10 #[.string n] w fun e w' => e = .returned (.bool (wIdx n).isSome) ∧ Below w.heap.size w w' := by
  have q1 := fn_neq
  have q2 := fn_nil
  rcases idx_cases n with h | h | h | h | h | h | h | h | h | h | h
  · subst h
    rw [idx_0]
    have K : Hid (∀ w : World, Calls Try.prog 22 #[.string ⟨#[109, 117, 108, 116]⟩, .int .u32 0, .int .u32 0] w _) := work22_0 0 0
    go_enter Try.func10, Try.ntmps10
    go_wp2_with fail
    refine (K.out _).mono ?_
    rintro e w1 ⟨rfl, hb, _, _⟩
    go_wp2
    go_ret
    exact ⟨rfl, hb⟩
  · subst h
    rw [idx_1]
    have K : Hid (∀ w : World, Calls Try.prog 22 #[.string ⟨#[109, 117, 108, 116, 117]⟩, .int .u32 0, .int .u32 0] w _) := work22_1 0 0
    go_enter Try.func10, Try.ntmps10
    go_wp2_with fail
    refine (K.out _).mono ?_
    rintro e w1 ⟨rfl, hb, _, _⟩
    go_wp2
    go_ret
    exact ⟨rfl, hb⟩
  · subst h
    rw [idx_2]
    have K : Hid (∀ w : World, Calls Try.prog 22 #[.string ⟨#[109, 97, 100, 100]⟩, .int .u32 0, .int .u32 0] w _) := work22_2 0 0
    go_enter Try.func10, Try.ntmps10
    go_wp2_with fail
    refine (K.out _).mono ?_
    rintro e w1 ⟨rfl, hb, _, _⟩
    go_wp2
    go_ret
    exact ⟨rfl, hb⟩
  · subst h
    rw [idx_3]
    have K : Hid (∀ w : World, Calls Try.prog 22 #[.string ⟨#[109, 97, 100, 100, 117]⟩, .int .u32 0, .int .u32 0] w _) := work22_3 0 0
    go_enter Try.func10, Try.ntmps10
    go_wp2_with fail
    refine (K.out _).mono ?_
    rintro e w1 ⟨rfl, hb, _, _⟩
    go_wp2
    go_ret
    exact ⟨rfl, hb⟩
  · subst h
    rw [idx_4]
    have K : Hid (∀ w : World, Calls Try.prog 22 #[.string ⟨#[109, 115, 117, 98]⟩, .int .u32 0, .int .u32 0] w _) := work22_4 0 0
    go_enter Try.func10, Try.ntmps10
    go_wp2_with fail
    refine (K.out _).mono ?_
    rintro e w1 ⟨rfl, hb, _, _⟩
    go_wp2
    go_ret
    exact ⟨rfl, hb⟩
  · subst h
    rw [idx_5]
    have K : Hid (∀ w : World, Calls Try.prog 22 #[.string ⟨#[109, 115, 117, 98, 117]⟩, .int .u32 0, .int .u32 0] w _) := work22_5 0 0
    go_enter Try.func10, Try.ntmps10
    go_wp2_with fail
    refine (K.out _).mono ?_
    rintro e w1 ⟨rfl, hb, _, _⟩
    go_wp2
    go_ret
    exact ⟨rfl, hb⟩
  · subst h
    rw [idx_6]
    have K : Hid (∀ w : World, Calls Try.prog 22 #[.string ⟨#[100, 105, 118]⟩, .int .u32 0, .int .u32 0] w _) := work22_6 0 0
    go_enter Try.func10, Try.ntmps10
    go_wp2_with fail
    refine (K.out _).mono ?_
    rintro e w1 ⟨rfl, hb, _, _⟩
    go_wp2
    go_ret
    exact ⟨rfl, hb⟩
  · subst h
    rw [idx_7]
    have K : Hid (∀ w : World, Calls Try.prog 22 #[.string ⟨#[100, 105, 118, 117]⟩, .int .u32 0, .int .u32 0] w _) := work22_7 0 0
    go_enter Try.func10, Try.ntmps10
    go_wp2_with fail
    refine (K.out _).mono ?_
    rintro e w1 ⟨rfl, hb, _, _⟩
    go_wp2
    go_ret
    exact ⟨rfl, hb⟩
  · subst h
    rw [idx_8]
    have K : Hid (∀ w : World, Calls Try.prog 22 #[.string ⟨#[109, 116, 104, 105]⟩, .int .u32 0, .int .u32 0] w _) := work22_8 0 0
    go_enter Try.func10, Try.ntmps10
    go_wp2_with fail
    refine (K.out _).mono ?_
    rintro e w1 ⟨rfl, hb, _, _⟩
    go_wp2
    go_ret
    exact ⟨rfl, hb⟩
  · subst h
    rw [idx_9]
    have K : Hid (∀ w : World, Calls Try.prog 22 #[.string ⟨#[109, 116, 108, 111]⟩, .int .u32 0, .int .u32 0] w _) := work22_9 0 0
    go_enter Try.func10, Try.ntmps10
    go_wp2_with fail
    refine (K.out _).mono ?_
    rintro e w1 ⟨rfl, hb, _, _⟩
    go_wp2
    go_ret
    exact ⟨rfl, hb⟩
  · rw [h]
    have K : Hid (∀ w : World, Calls Try.prog 22 #[.string n, .int .u32 0, .int .u32 0] w _) := work22_no n (none_of h) 0 0
    clear h
    go_enter Try.func10, Try.ntmps10
    go_wp2_with fail
    refine (K.out _).mono ?_
    rintro e w1 ⟨rfl, hb⟩
    go_wp2
    go_ret
    exact ⟨rfl, hb⟩
theorem rknown11 (n : ByteArray) (w : World) : Calls Try.prog 11 #[.string n] w fun e w' => e = .returned (.bool (wIdx n).isSome) ∧ w' = w := by
  rcases idx_cases n with h | h | h | h | h | h | h | h | h | h | h
  · subst h
    rw [idx_0]
    go_enter Try.func11, Try.ntmps11
    go_wp2
    go_ret
    exact ⟨rfl, rfl⟩
  · subst h
    rw [idx_1]
    go_enter Try.func11, Try.ntmps11
    go_wp2
    go_ret
    exact ⟨rfl, rfl⟩
  · subst h
    rw [idx_2]
    go_enter Try.func11, Try.ntmps11
    go_wp2
    go_ret
    exact ⟨rfl, rfl⟩
  · subst h
    rw [idx_3]
    go_enter Try.func11, Try.ntmps11
    go_wp2
    go_ret
    exact ⟨rfl, rfl⟩
  · subst h
    rw [idx_4]
    go_enter Try.func11, Try.ntmps11
    go_wp2
    go_ret
    exact ⟨rfl, rfl⟩
  · subst h
    rw [idx_5]
    go_enter Try.func11, Try.ntmps11
    go_wp2
    go_ret
    exact ⟨rfl, rfl⟩
  · subst h
    rw [idx_6]
    go_enter Try.func11, Try.ntmps11
    go_wp2
    go_ret
    exact ⟨rfl, rfl⟩
  · subst h
    rw [idx_7]
    go_enter Try.func11, Try.ntmps11
    go_wp2
    go_ret
    exact ⟨rfl, rfl⟩
  · subst h
    rw [idx_8]
    go_enter Try.func11, Try.ntmps11
    go_wp2
    go_ret
    exact ⟨rfl, rfl⟩
  · subst h
    rw [idx_9]
    go_enter Try.func11, Try.ntmps11
    go_wp2
    go_ret
    exact ⟨rfl, rfl⟩
  · rw [h]
    obtain ⟨n0, n1, n2, n3, n4, n5, n6, n7, n8, n9⟩ := none_of h
    clear h
    go_enter Try.func11, Try.ntmps11
    go_wp2
    go_ret
    exact ⟨rfl, rfl⟩
end Go.Proofs.Ytbdhgfjhgfohcaa
