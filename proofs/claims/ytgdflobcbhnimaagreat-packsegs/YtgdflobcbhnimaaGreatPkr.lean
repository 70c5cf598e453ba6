/- What is proved here: a library that can be: the program's Fit says so. -/
import Derived.Test.YtgdflobcbhnimaaGreatPkq
import Derived.Test.YtgdflobcbhnimaaGreatNd
namespace Go.Proofs.YtgdflobcbhnimaaGreat
open Go.RowKit 
set_option linter.unusedVariables false
set_option linter.unusedSimpArgs false
set_option maxRecDepth 100000
theorem index79 (s : ByteArray) (w : World) : Calls Tryz.prog 79 #[.string s, .int .u8 0] w fun e w' => e = .returned (.int .i64 (firstIdx s 0)) ∧ w' = w := by
  have K := index58 s w
  go_enter Tryz.func79, Tryz.ntmps79
  go_wp2_with fail
  refine K.mono ?_
  rintro e wz ⟨rfl, rfl⟩
  go_wp2
  go_ret
  exact ⟨rfl, rfl⟩
theorem isText46 (s : L8) (h : textP s) (w : World) : Calls Tryz.prog 46 #[.string ⟨s.toArray⟩] w fun e w' => e = .returned (.bool true) ∧ w' = w := by
  obtain ⟨S, hS⟩ : ∃ S : ByteArray, S = ⟨s.toArray⟩ := ⟨_, rfl⟩
  have hl : S.toList = s := by rw [hS]; exact bal s
  have hsz : S.size = s.length := by rw [← hl, bt_len]
  have K := index79 S w
  rw [first_no S (by rw [hl]; exact h.2)] at K
  rw [← hS]
  have h1 := h.1
  have i2 : (S.size : Int) ≤ 31 := by omega
  have d2 := decide_eq_true i2
  clear hS hl hsz h h1
  go_enter Tryz.func46, Tryz.ntmps46
  go_wp2_with fail
  refine K.mono ?_
  rintro e wz ⟨rfl, rfl⟩
  go_wp2
  go_ret
  exact ⟨rfl, rfl⟩
theorem isNone45 (s : L8) (h : s ≠ [] ∧ textP s) (w : World) : Calls Tryz.prog 45 #[.string ⟨s.toArray⟩] w fun e w' => e = .returned (.bool false) ∧ Below w.heap.size w w' := by
  have K := isText46 s h.2 w
  obtain ⟨S, hS⟩ : ∃ S : ByteArray, S = ⟨s.toArray⟩ := ⟨_, rfl⟩
  have hl : S.toList = s := by rw [hS]; exact bal s
  rw [← hS] at K ⊢
  have e1 : S.toList.isEmpty = false := by rw [hl]; cases s with | nil => exact absurd rfl h.1 | cons a t => rfl
  have e2 : ¬ S.toList = [] := by rw [hl]; exact h.1
  clear hS hl h
  go_enter Tryz.func45, Tryz.ntmps45
  go_wp2_with fail
  refine K.mono ?_
  rintro e wz ⟨rfl, rfl⟩
  go_wp2
  go_ret
  exact ⟨rfl, Below.refl _ _⟩
set_option maxHeartbeats 1000000 in
theorem index80 (f : Nat) (xs : List L8) (v : Value) (w : World) (hs : SlS w v xs) (hn : xs.length ≤ 1000000)
    (eg : ∀ args w, (callFunc f args).run Tryz.prog w = .ok (.enter f args) w)
    (hf : ∀ w1 s, Below w.heap.size w w1 → s ∈ xs → Calls Tryz.prog f #[.string ⟨s.toArray⟩] w1 fun e w' => e = .returned (.bool false) ∧ Below w1.heap.size w1 w') :
    Calls Tryz.prog 80 #[v, .func (.func f) #[] #[]] w fun e w' => e = .returned (.int .i64 (-1)) ∧ Below w.heap.size w w' := by
  obtain ⟨ao, cap, rfl, s1, s2, s3, s4⟩ := hs
  have HS : Hid (∀ i (h : i < xs.length), ∃ b o, ao = some ⟨b, o, none⟩ ∧ w.cell? ⟨b, o + i, none⟩ = some (.string ⟨xs[i].toArray⟩)) := s4
  have HFF : Hid (∀ w1 s, Below w.heap.size w w1 → s ∈ xs → Calls Tryz.prog f #[.string ⟨s.toArray⟩] w1 fun e w' => e = .returned (.bool false) ∧ Below w1.heap.size w1 w') := hf
  clear s4 hf
  go_enter Tryz.func80, Tryz.ntmps80
  go_wp2
  go_loopw [8] (fun x wr => ∃ k : Nat, x = .int .i64 (k : Int) ∧ k ≤ xs.length ∧ Below w.heap.size w wr) (fun x _ => xs.length - (intOf x).toNat)
  case atStart => exact ⟨0, rfl, Nat.zero_le _, Below.refl _ _⟩
  case round =>
    obtain ⟨k, rfl, hk, hbr⟩ := hrel
    by_cases hlt : k < xs.length
    · obtain ⟨b, o, hao, c0⟩ := HS.out k hlt
      replace c0 := keep_cell hbr c0
      have KF := HFF.out wr xs[k] hbr (List.getElem_mem hlt)
      generalize (⟨(xs[k]).toArray⟩ : ByteArray) = S at c0 KF
      have hki : (k : Int) < (xs.length : Int) := by omega
      have HB : Hid (Below w.heap.size w wr) := hbr
      subst hao
      clear hbr
      go_wp2_with fail
      refine KF.mono ?_
      rintro e w2 ⟨rfl, hb2⟩
      have HB2 : Hid (Below w.heap.size w w2) := below_tr HB.out hb2
      clear KF c0 hb2
      go_wp2
      go_roundw
      case rel => exact ⟨k + 1, by go_num, by omega, HB2.out⟩
      case measure => simp [intOf]; omega
    · have hki : ¬ (k : Int) < (xs.length : Int) := by omega
      go_wp2
      go_ret
      exact ⟨rfl, hbr⟩
theorem contains47 (xs : List L8) (v : Value) (w : World) (hs : SlS w v xs) (hn : xs.length ≤ 1000000) (hx : ∀ s ∈ xs, s ≠ [] ∧ textP s) :
    Calls Tryz.prog 47 #[v, .func (.func 45) #[] #[]] w fun e w' => e = .returned (.bool false) ∧ Below w.heap.size w w' := by
  have eg : ∀ args w, (callFunc 45 args).run Tryz.prog w = .ok (.enter 45 args) w := enters_of Tryz.func45 (by kernel_rfl) rfl
  have K := index80 45 xs v w hs hn eg (fun w1 s _ hm => isNone45 s (hx s hm) w1)
  obtain ⟨ao, cap, rfl, _⟩ := hs
  clear eg
  go_enter Tryz.func47, Tryz.ntmps47
  go_wp2_with fail
  refine K.mono ?_
  rintro e w2 ⟨rfl, hb2⟩
  go_wp2
  go_ret
  exact ⟨rfl, hb2⟩
end Go.Proofs.YtgdflobcbhnimaaGreat
