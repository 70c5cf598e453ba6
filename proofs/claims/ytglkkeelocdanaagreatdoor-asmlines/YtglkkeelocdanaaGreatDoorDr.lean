/- What is proved here: the document's small functions: a form's letters, its registers, its width; what fits. -/
import Derived.Test.YtglkkeelocdanaaGreatDoorFn
namespace Go.Proofs.YtglkkeelocdanaaGreatDoor
open Go.RowKit
set_option linter.unusedVariables false
set_option linter.unusedSimpArgs false
set_option maxRecDepth 100000
/-- Has a text a byte? -/
def hasB (f : ByteArray) (c : Nat) : Bool := (formL f).any (fun x => x == c)
theorem any_take (l : List Nat) (c k x : Nat) (h : l[k]? = some x) : (l.take (k + 1)).any (fun y => y == c) = ((l.take k).any (fun y => y == c) || x == c) := by
  rw [List.take_add_one, h, Option.toList_some, List.any_append]; simp
set_option maxHeartbeats 1000000 in
theorem has37 (f : ByteArray) (c : Nat) (hc : c < 256) (hf : f.size < 9223372036854775807) (w : World) : Calls Tryz.prog 93 #[.string f, .int .u8 (c : Int)] w fun e w' => e = .returned (.bool (hasB f c)) ∧ w' = w := by
  have HL : Hid ((formL f).length = f.size) := formL_len f
  have HG : Hid (∀ (i : Nat) (h : i < f.size), (formL f)[i]? = some (f[i]'h).toNat) := fun i h => formL_get f i h
  have HF : Hid (f.size < 9223372036854775807) := hf
  obtain ⟨z, hz⟩ : ∃ z, z = hasB f c := ⟨_, rfl⟩
  rw [← hz]
  have HZ : Hid (z = (formL f).any (fun x => x == c)) := hz
  clear hz hf
  go_enter Tryz.func93, Tryz.ntmps93
  go_wp2
  go_loop [5] (fun i => ∃ k : Nat, k ≤ f.size ∧ i = .int .i64 (k : Int) ∧ ((formL f).take k).any (fun x => x == c) = false) (fun i => f.size - (intOf i).toNat)
  case atStart => exact ⟨0, Nat.zero_le _, rfl, rfl⟩
  case round =>
    obtain ⟨k, hk, rfl, hpre⟩ := hrel
    have hkf := HF.out
    by_cases hl : k < f.size
    · have hg := HG.out k hl
      have hs := any_take (formL f) c k _ hg
      rw [hpre, Bool.false_or] at hs
      have hkI : (k : Int) < (f.size : Int) := by omega
      by_cases hx : (f[k]'hl).toNat = c
      · have hb : (((f[k]'hl).toNat : Int) == (c : Int)) = true := by simp; omega
        have hzt : Hid (z = true) := by
          show _ = _
          rw [HZ.out, List.any_eq_true]
          exact ⟨_, List.mem_of_getElem? hg, by simpa using hx⟩
        clear hg hs hx hpre
        go_wp2
        go_ret
        exact ⟨by rw [hzt.out]; rfl, rfl⟩
      · have hb : (((f[k]'hl).toNat : Int) == (c : Int)) = false := by simp; omega
        have HS : Hid (((formL f).take (k + 1)).any (fun x => x == c) = false) := by show _ = _; rw [hs]; simpa using hx
        clear hg hs hx hpre
        go_wp2
        go_round
        case rel => exact ⟨k + 1, by omega, by go_num, HS.out⟩
        case measure => simp [intOf]; omega
    · have he : k = f.size := by omega
      subst he
      have hzt : Hid (z = false) := by
        show _ = _
        rw [HZ.out, ← hpre, ← HL.out, List.take_length]
      clear hpre
      go_wp2
      go_ret
      exact ⟨by rw [hzt.out]; rfl, rfl⟩
/-- How many bits Imm has. -/
def wideN (f : ByteArray) : Nat := if f.toList == [99] then 20 else if f.toList == [106] then 26 else if f.toList == [115, 111] then 16 else if f.toList == [115, 116, 111] then 16 else if f.toList == [116, 115, 105] then 16 else if f.toList == [116, 105] then 16 else if f.toList == [116, 109] then 16 else 0
set_option maxHeartbeats 1000000 in
theorem wide33 (f : ByteArray) (w : World) : Calls Tryz.prog 77 #[.string f] w fun e w' => e = .returned (.int .u32 (wideN f : Int)) ∧ w' = w := by
  cases h0 : (f.toList == [99]) with
  | true =>
    go_enter Tryz.func77, Tryz.ntmps77
    go_wp2
    go_ret
    exact ⟨by simp only [wideN, if_true, if_false, Bool.false_eq_true, h0]; rfl, rfl⟩
  | false =>
    cases h1 : (f.toList == [106]) with
    | true =>
      go_enter Tryz.func77, Tryz.ntmps77
      go_wp2
      go_ret
      exact ⟨by simp only [wideN, if_true, if_false, Bool.false_eq_true, h0, h1]; rfl, rfl⟩
    | false =>
      cases h2 : (f.toList == [115, 111]) with
      | true =>
        go_enter Tryz.func77, Tryz.ntmps77
        go_wp2
        go_ret
        exact ⟨by simp only [wideN, if_true, if_false, Bool.false_eq_true, h0, h1, h2]; rfl, rfl⟩
      | false =>
        cases h3 : (f.toList == [115, 116, 111]) with
        | true =>
          go_enter Tryz.func77, Tryz.ntmps77
          go_wp2
          go_ret
          exact ⟨by simp only [wideN, if_true, if_false, Bool.false_eq_true, h0, h1, h2, h3]; rfl, rfl⟩
        | false =>
          cases h4 : (f.toList == [116, 115, 105]) with
          | true =>
            go_enter Tryz.func77, Tryz.ntmps77
            go_wp2
            go_ret
            exact ⟨by simp only [wideN, if_true, if_false, Bool.false_eq_true, h0, h1, h2, h3, h4]; rfl, rfl⟩
          | false =>
            cases h5 : (f.toList == [116, 105]) with
            | true =>
              go_enter Tryz.func77, Tryz.ntmps77
              go_wp2
              go_ret
              exact ⟨by simp only [wideN, if_true, if_false, Bool.false_eq_true, h0, h1, h2, h3, h4, h5]; rfl, rfl⟩
            | false =>
              cases h6 : (f.toList == [116, 109]) with
              | true =>
                go_enter Tryz.func77, Tryz.ntmps77
                go_wp2
                go_ret
                exact ⟨by simp only [wideN, if_true, if_false, Bool.false_eq_true, h0, h1, h2, h3, h4, h5, h6]; rfl, rfl⟩
              | false =>
                go_enter Tryz.func77, Tryz.ntmps77
                go_wp2
                go_ret
                exact ⟨by simp only [wideN, if_true, if_false, Bool.false_eq_true, h0, h1, h2, h3, h4, h5, h6]; rfl, rfl⟩
/-- Is a number one of a register's, or 0? -/
def fitsB (n : Int) (b : Bool) : Bool := n == 0 || (b && (decide (0 < n) && decide (n < 32)))
theorem fits35 (n : Int) (b : Bool) (w : World) : Calls Tryz.prog 76 #[.int .i64 n, .bool b] w fun e w' => e = .returned (.bool (fitsB n b)) ∧ w' = w := by
  by_cases h0 : n = 0
  · subst h0
    go_enter Tryz.func76, Tryz.ntmps76
    go_wp2
    go_ret
    exact ⟨by simp [fitsB], rfl⟩
  · have e0 : (n == 0) = false := by simpa using h0
    cases b with
    | false =>
      go_enter Tryz.func76, Tryz.ntmps76
      go_wp2
      go_ret
      exact ⟨by simp [fitsB, e0], rfl⟩
    | true =>
      by_cases h1 : 0 < n
      · go_enter Tryz.func76, Tryz.ntmps76
        go_wp2
        go_ret
        exact ⟨by simp only [fitsB, e0, decide_eq_true h1, Bool.false_or, Bool.true_and]; rfl, rfl⟩
      · have hd : decide (0 < n) = false := by simpa using h1
        go_enter Tryz.func76, Tryz.ntmps76
        go_wp2
        go_ret
        exact ⟨by simp only [fitsB, e0, hd, Bool.false_or, Bool.true_and, Bool.false_and]; rfl, rfl⟩
/-- The registers that a form has. -/
def regsD (f : ByteArray) : Bool × Bool × Bool × Bool := if f.toList == [116, 109] then (true, true, false, false) else if f.toList == [116, 115, 120] then (true, true, true, true) else if f.toList == [100, 116, 114] then (false, true, true, true) else if f.toList == [100, 116, 118] then (true, true, true, false) else if f.toList == [99] then (false, false, false, false) else if f.toList == [106] then (false, false, false, false) else (hasB f 115, hasB f 116, hasB f 100, hasB f 97)
def regV (x : Bool × Bool × Bool × Bool) : Value := .agg #[.bool x.1, .bool x.2.1, .bool x.2.2.1, .bool x.2.2.2]
set_option maxHeartbeats 1000000 in
theorem registers32 (f : ByteArray) (hf : f.size < 9223372036854775807) (w : World) : Calls Tryz.prog 75 #[.string f] w fun e w' => e = .returned (regV (regsD f)) ∧ Below w.heap.size w w' := by
  obtain ⟨W, hW, hb, hz, c0, c1, c2, c3, f0, f1, f2, f3⟩ := box4 w (.bool false) (.bool false) (.bool false) (.bool false) 112
  have HB : Hid (Below w.heap.size w W) := hb
  have q0 := f0.cell
  have q1 := f1.cell
  have q2 := f2.cell
  have q3 := f3.cell
  have z0 := f0.frozen
  have z1 := f1.frozen
  have z2 := f2.frozen
  have z3 := f3.frozen
  have H1 := has37 f 115 (by decide) hf W
  have H2 := has37 f 116 (by decide) hf W
  have H3 := has37 f 100 (by decide) hf W
  have H4 := has37 f 97 (by decide) hf W
  have HR : Hid (regsD f = if f.toList == [116, 109] then (true, true, false, false) else if f.toList == [116, 115, 120] then (true, true, true, true) else if f.toList == [100, 116, 114] then (false, true, true, true) else if f.toList == [100, 116, 118] then (true, true, true, false) else if f.toList == [99] then (false, false, false, false) else if f.toList == [106] then (false, false, false, false) else (hasB f 115, hasB f 116, hasB f 100, hasB f 97)) := rfl
  generalize regsD f = R at HR ⊢
  generalize hasB f 115 = b1 at H1 HR
  generalize hasB f 116 = b2 at H2 HR
  generalize hasB f 100 = b3 at H3 HR
  generalize hasB f 97 = b4 at H4 HR
  clear hb hz c0 c1 c2 c3 hf
  cases h0 : (f.toList == [116, 109]) with
  | true =>
    go_enter Tryz.func75, Tryz.ntmps75
    go_wp2
    refine bodyPost_ret (v := .agg #[.bool true, .bool true, .bool false, .bool false]) ?_ rfl ⟨?_, below4 HB.out (Nat.le_refl _) (.bool true) (.bool true) (.bool false) (.bool false)⟩
    · obtain ⟨s0, s1, s2, s3⟩ := res4 W w.heap.size (.bool true) (.bool true) (.bool false) (.bool false) f0 f1 f2 f3
      rw [results_cell1 rfl]; simp [go_sem, s0, s1, s2, s3]
    · have hr := HR.out
      simp only [if_true, if_false, Bool.false_eq_true, h0] at hr
      rw [hr]; rfl
  | false =>
    cases h1 : (f.toList == [116, 115, 120]) with
    | true =>
      go_enter Tryz.func75, Tryz.ntmps75
      go_wp2
      refine bodyPost_ret (v := .agg #[.bool true, .bool true, .bool true, .bool true]) ?_ rfl ⟨?_, below4 HB.out (Nat.le_refl _) (.bool true) (.bool true) (.bool true) (.bool true)⟩
      · obtain ⟨s0, s1, s2, s3⟩ := res4 W w.heap.size (.bool true) (.bool true) (.bool true) (.bool true) f0 f1 f2 f3
        rw [results_cell1 rfl]; simp [go_sem, s0, s1, s2, s3]
      · have hr := HR.out
        simp only [if_true, if_false, Bool.false_eq_true, h0, h1] at hr
        rw [hr]; rfl
    | false =>
      cases h2 : (f.toList == [100, 116, 114]) with
      | true =>
        go_enter Tryz.func75, Tryz.ntmps75
        go_wp2
        refine bodyPost_ret (v := .agg #[.bool false, .bool true, .bool true, .bool true]) ?_ rfl ⟨?_, below4 HB.out (Nat.le_refl _) (.bool false) (.bool true) (.bool true) (.bool true)⟩
        · obtain ⟨s0, s1, s2, s3⟩ := res4 W w.heap.size (.bool false) (.bool true) (.bool true) (.bool true) f0 f1 f2 f3
          rw [results_cell1 rfl]; simp [go_sem, s0, s1, s2, s3]
        · have hr := HR.out
          simp only [if_true, if_false, Bool.false_eq_true, h0, h1, h2] at hr
          rw [hr]; rfl
      | false =>
        cases h3 : (f.toList == [100, 116, 118]) with
        | true =>
          go_enter Tryz.func75, Tryz.ntmps75
          go_wp2
          refine bodyPost_ret (v := .agg #[.bool true, .bool true, .bool true, .bool false]) ?_ rfl ⟨?_, below4 HB.out (Nat.le_refl _) (.bool true) (.bool true) (.bool true) (.bool false)⟩
          · obtain ⟨s0, s1, s2, s3⟩ := res4 W w.heap.size (.bool true) (.bool true) (.bool true) (.bool false) f0 f1 f2 f3
            rw [results_cell1 rfl]; simp [go_sem, s0, s1, s2, s3]
          · have hr := HR.out
            simp only [if_true, if_false, Bool.false_eq_true, h0, h1, h2, h3] at hr
            rw [hr]; rfl
        | false =>
          cases h4 : (f.toList == [99]) with
          | true =>
            go_enter Tryz.func75, Tryz.ntmps75
            go_wp2
            refine bodyPost_ret (v := .agg #[.bool false, .bool false, .bool false, .bool false]) ?_ rfl ⟨?_, below4 HB.out (Nat.le_refl _) (.bool false) (.bool false) (.bool false) (.bool false)⟩
            · obtain ⟨s0, s1, s2, s3⟩ := res4 W w.heap.size (.bool false) (.bool false) (.bool false) (.bool false) f0 f1 f2 f3
              rw [results_cell1 rfl]; simp [go_sem, s0, s1, s2, s3]
            · have hr := HR.out
              simp only [if_true, if_false, Bool.false_eq_true, h0, h1, h2, h3, h4] at hr
              rw [hr]; rfl
          | false =>
            cases h5 : (f.toList == [106]) with
            | true =>
              go_enter Tryz.func75, Tryz.ntmps75
              go_wp2
              refine bodyPost_ret (v := .agg #[.bool false, .bool false, .bool false, .bool false]) ?_ rfl ⟨?_, below4 HB.out (Nat.le_refl _) (.bool false) (.bool false) (.bool false) (.bool false)⟩
              · obtain ⟨s0, s1, s2, s3⟩ := res4 W w.heap.size (.bool false) (.bool false) (.bool false) (.bool false) f0 f1 f2 f3
                rw [results_cell1 rfl]; simp [go_sem, s0, s1, s2, s3]
              · have hr := HR.out
                simp only [if_true, if_false, Bool.false_eq_true, h0, h1, h2, h3, h4, h5] at hr
                rw [hr]; rfl
            | false =>
              go_enter Tryz.func75, Tryz.ntmps75
              go_wp2_with fail
              refine H1.mono ?_
              rintro e w1 ⟨rfl, hw1⟩
              subst hw1
              go_wp2_with fail
              refine H2.mono ?_
              rintro e w1 ⟨rfl, hw1⟩
              subst hw1
              go_wp2_with fail
              refine H3.mono ?_
              rintro e w1 ⟨rfl, hw1⟩
              subst hw1
              go_wp2_with fail
              refine H4.mono ?_
              rintro e w1 ⟨rfl, hw1⟩
              subst hw1
              go_wp2
              refine bodyPost_ret (v := .agg #[.bool b1, .bool b2, .bool b3, .bool b4]) ?_ rfl ⟨?_, below4 HB.out (Nat.le_refl _) (.bool b1) (.bool b2) (.bool b3) (.bool b4)⟩
              · obtain ⟨s0, s1, s2, s3⟩ := res4 _ w.heap.size (.bool b1) (.bool b2) (.bool b3) (.bool b4) f0 f1 f2 f3
                rw [results_cell1 rfl]; simp [go_sem, s0, s1, s2, s3]
              · have hr := HR.out
                simp only [if_true, if_false, Bool.false_eq_true, h0, h1, h2, h3, h4, h5] at hr
                rw [hr]; rfl
end Go.Proofs.YtglkkeelocdanaaGreatDoor
