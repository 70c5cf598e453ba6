/- What is proved here: numbers of a text: the program's and the document's. -/
import Derived.Test.YtmkfgoacbehhcaaNe
namespace Go.Proofs.Ytmkfgoacbehhcaa
open Go.RowKit
set_option linter.unusedVariables false
set_option linter.unusedSimpArgs false
set_option maxRecDepth 100000
theorem beS_le (l : L8) (h : l.length ≤ 8) : W.beS ⟨l.toArray⟩ = W.beL l := by
  unfold W.beS
  rw [if_pos]
  show l.toArray.size ≤ 8
  simp; omega
theorem be34 (l : L8) (h : l.length ≤ 8) (w : World) : Calls Try.prog 34 #[.string ⟨l.toArray⟩] w fun e w' => e = .returned (.int .u64 (W.beL l : Int)) ∧ Below w.heap.size w w' := by
  have := W.be_any ⟨l.toArray⟩ w
  rw [beS_le l h] at this
  exact this
theorem rbe36 (l : L8) (h : l.length ≤ 8) (w : World) : Calls Try.prog 36 #[.string ⟨l.toArray⟩] w fun e w' => e = .returned (.int .u64 (W.beL l : Int)) ∧ w' = w := by
  have := W.rbe_any ⟨l.toArray⟩ w (by show l.toArray.size ≤ 1000000; simp; omega)
  rw [beS_le l h] at this
  exact this
theorem part_ext (l : L8) (S : ByteArray) (hS : S.toList = l) (a b n : Nat) (h : b = a + n) : S.extract a b = ⟨((l.drop a).take n).toArray⟩ := by
  subst h
  rw [ext_list, hS, List.drop_take, Nat.add_sub_cancel_left]
set_option maxHeartbeats 1000000 in
theorem wordAt32 (l : L8) (b : Nat) (hb : b < 18446744073709551616) (hl : l.length ≤ 1000000) (w : World) : Calls Try.prog 32 #[.string ⟨l.toArray⟩, .int .u64 (b : Int)] w fun e w' => e = .returned (.int .u32 (wAt l b : Int)) ∧ Below w.heap.size w w' := by
  obtain ⟨S, hS⟩ : ∃ S : ByteArray, S = ⟨l.toArray⟩ := ⟨_, rfl⟩
  have hSl : S.toList = l := by rw [hS]; exact bal l
  have hsz : S.size = l.length := by rw [← hSl, bt_len]
  rw [← hS]
  have hm : S.size ≤ 1000000 := by omega
  have h64 : (S.size : Int) % 18446744073709551616 = (S.size : Int) := by omega
  have h64' : IntKind.u64.wrap (S.size : Int) = (S.size : Int) := by rw [IntKind.wrap_u64]; omega
  by_cases h : b < l.length / 4
  · obtain ⟨A4, hA⟩ : ∃ z, z = 4 * b := ⟨_, rfl⟩
    obtain ⟨E4, hE⟩ : ∃ z, z = A4 + 4 := ⟨_, rfl⟩
    have hV : wAt l b = W.beL ((l.drop A4).take 4) := by unfold wAt; rw [if_pos h, hA]; rfl
    have hx := part_ext l S hSl A4 E4 4 hE
    have K : Hid (∀ w', Calls Try.prog 34 #[.string ⟨((l.drop A4).take 4).toArray⟩] w' fun e w'' => e = .returned (.int .u64 (wAt l b : Int)) ∧ Below w'.heap.size w' w'') := fun w' => by
      rw [hV]
      exact be34 _ (by simp; omega) w'
    have hlt : wAt l b < 4294967296 := by rw [hV]; exact wd_lt l A4
    generalize wAt l b = V at K hlt ⊢
    rw [← hx] at K
    have hq : ¬ (S.size : Int) / 4 ≤ (b : Int) := by omega
    have dq := decide_eq_false hq
    have e1 : (b : Int) * 4 = (A4 : Int) := by omega
    have e2 : (A4 : Int) + 4 = (E4 : Int) := by omega
    have e3 : IntKind.u64.wrap (A4 : Int) = (A4 : Int) := by rw [IntKind.wrap_u64]; omega
    have e4 : IntKind.u64.wrap (E4 : Int) = (E4 : Int) := by rw [IntKind.wrap_u64]; omega
    have e5 : (A4 : Int) % 18446744073709551616 = (A4 : Int) := by omega
    have e6 : (E4 : Int) % 18446744073709551616 = (E4 : Int) := by omega
    have l1 : A4 ≤ E4 := by omega
    have l2 : E4 ≤ S.size := by omega
    have l1i : (A4 : Int) ≤ (E4 : Int) := by omega
    have l2i : (E4 : Int) ≤ (S.size : Int) := by omega
    have hvi : (V : Int) % 4294967296 = (V : Int) := by omega
    clear hS hSl hsz hA hE hx hV h hl hb
    go_enter Try.func32, Try.ntmps32
    go_wp2_with fail
    refine (K.out _).mono ?_
    rintro e w1 ⟨rfl, hb1⟩
    go_wp2
    go_ret
    exact ⟨rfl, hb1⟩
  · have hV : wAt l b = 0 := by unfold wAt; rw [if_neg h]
    rw [hV]
    have hq : (S.size : Int) / 4 ≤ (b : Int) := by omega
    have dq := decide_eq_true hq
    clear hS hSl hsz hV h hl hb
    go_enter Try.func32, Try.ntmps32
    go_wp2
    go_ret
    exact ⟨rfl, Below.refl _ _⟩
set_option maxHeartbeats 1000000 in
theorem rword21 (l : L8) (k : Nat) (h : k + 4 ≤ l.length) (hl : l.length ≤ 1000000) (w : World) : Calls Try.prog 21 #[.string ⟨l.toArray⟩, .int .i64 (k : Int)] w fun e w' => e = .returned (.int .u32 (wd l k : Int)) ∧ w' = w := by
  obtain ⟨S, hS⟩ : ∃ S : ByteArray, S = ⟨l.toArray⟩ := ⟨_, rfl⟩
  have hSl : S.toList = l := by rw [hS]; exact bal l
  have hsz : S.size = l.length := by rw [← hSl, bt_len]
  rw [← hS]
  have hm : S.size ≤ 1000000 := by omega
  obtain ⟨E4, hE⟩ : ∃ z, z = k + 4 := ⟨_, rfl⟩
  have hx := part_ext l S hSl k E4 4 hE
  have hlt := wd_lt l k
  have K : Hid (∀ w', Calls Try.prog 36 #[.string ⟨((l.drop k).take 4).toArray⟩] w' fun e w'' => e = .returned (.int .u64 (wd l k : Int)) ∧ w'' = w') := fun w' => rbe36 _ (by simp; omega) w'
  generalize wd l k = V at K hlt ⊢
  rw [← hx] at K
  have e2 : (k : Int) + 4 = (E4 : Int) := by omega
  have l1 : k ≤ E4 := by omega
  have l2 : E4 ≤ S.size := by omega
  have l1i : (k : Int) ≤ (E4 : Int) := by omega
  have l2i : (E4 : Int) ≤ (S.size : Int) := by omega
  have hvi : (V : Int) % 4294967296 = (V : Int) := by omega
  clear hS hSl hsz hE hx h hl
  go_enter Try.func21, Try.ntmps21
  go_wp2_with fail
  refine (K.out _).mono ?_
  rintro e w1 ⟨rfl, rfl⟩
  go_wp2
  go_ret
  exact ⟨rfl, rfl⟩
/-- The number that the document's number tells, and whether it is there. -/
theorem wAt_in {l : L8} {k : Nat} (h : k < l.length / 4) : wAt l k = wd l (4 * k) := by unfold wAt; rw [if_pos h]
theorem wAt_out {l : L8} {k : Nat} (h : ¬ k < l.length / 4) : wAt l k = 0 := by unfold wAt; rw [if_neg h]
theorem wAt_lt (l : L8) (k : Nat) : wAt l k < 4294967296 := by
  unfold wAt
  split
  · exact wd_lt _ _
  · decide
set_option maxHeartbeats 1000000 in
theorem number26 (l : L8) (b : Nat) (hb : b < 18446744073709551616) (hl : l.length ≤ 1000000) (w : World) : Calls Try.prog 26 #[.string ⟨l.toArray⟩, .int .u64 (b : Int)] w fun e w' => e = .returned (.tuple #[.int .u32 (wAt l b : Int), .bool (decide (b < l.length / 4))]) ∧ w' = w := by
  have hw21 := rword21 l
  have HW : Hid (∀ (k : Nat), k + 4 ≤ l.length → ∀ w', Calls Try.prog 21 #[.string ⟨l.toArray⟩, .int .i64 (k : Int)] w' fun e w'' => e = .returned (.int .u32 (wd l k : Int)) ∧ w'' = w') := fun k h w' => rword21 l k h hl w'
  clear hw21
  obtain ⟨S, hS⟩ : ∃ S : ByteArray, S = ⟨l.toArray⟩ := ⟨_, rfl⟩
  have hSl : S.toList = l := by rw [hS]; exact bal l
  have hsz : S.size = l.length := by rw [← hSl, bt_len]
  rw [← hS] at HW ⊢
  have hm : S.size ≤ 1000000 := by omega
  by_cases hg : 1073741824 < b
  · have hn : ¬ b < l.length / 4 := by omega
    rw [wAt_out hn, decide_eq_false hn]
    have hgi : (1073741824 : Int) < (b : Int) := by omega
    have dg := decide_eq_true hgi
    clear hS hSl hsz HW hl hn hb
    go_enter Try.func26, Try.ntmps26
    go_wp2
    go_ret2
    exact ⟨rfl, rfl⟩
  · have hgi : ¬ (1073741824 : Int) < (b : Int) := by omega
    have dg := decide_eq_false hgi
    have e0 : wrap64 (b : Int) = (b : Int) := by unfold wrap64; omega
    obtain ⟨A4, hA⟩ : ∃ z, z = 4 * b := ⟨_, rfl⟩
    have e1 : (b : Int) * 4 = (A4 : Int) := by omega
    by_cases h : b < l.length / 4
    · rw [wAt_in h, decide_eq_true h, ← hA]
      have K : Hid (∀ w', Calls Try.prog 21 #[.string S, .int .i64 (A4 : Int)] w' fun e w'' => e = .returned (.int .u32 (wd l A4 : Int)) ∧ w'' = w') := HW.out A4 (by omega)
      generalize wd l A4 = V at K ⊢
      have hq : ¬ (S.size : Int) - 4 < (A4 : Int) := by omega
      have dq := decide_eq_false hq
      have hA3 : (A4 : Int) ≤ 4294967296 := by omega
      clear hS hSl hsz HW hl hb h hA
      go_enter Try.func26, Try.ntmps26
      go_wp2_with fail
      refine (K.out _).mono ?_
      rintro e w1 ⟨rfl, rfl⟩
      go_wp2
      go_ret2
      exact ⟨rfl, rfl⟩
    · rw [wAt_out h, decide_eq_false h]
      have hq : (S.size : Int) - 4 < (A4 : Int) := by omega
      have dq := decide_eq_true hq
      have hA3 : (A4 : Int) ≤ 4294967296 := by omega
      clear hS hSl hsz HW hl hb h hA
      go_enter Try.func26, Try.ntmps26
      go_wp2
      go_ret2
      exact ⟨rfl, rfl⟩
end Go.Proofs.Ytmkfgoacbehhcaa
