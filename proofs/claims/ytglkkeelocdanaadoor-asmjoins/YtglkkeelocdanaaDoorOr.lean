/- What is proved here: AsmJoins's walk. -/
import Derived.Test.YtglkkeelocdanaaDoorOq
namespace Go.Proofs.YtglkkeelocdanaaDoor
open Go.RowKit
set_option linter.unusedVariables false
set_option linter.unusedSimpArgs false
set_option maxRecDepth 100000
theorem asm_len : ∀ (xs : List (Nat × L8)) (o : L8), (asmN xs o).1.length ≤ o.length + 4 * xs.length
  | [], o => by rw [asmN]; simp
  | x :: xs, o => by
    rw [asmN]
    cases hw : hasW x.2 with
    | false =>
      rw [if_neg (by decide)]
      have := asm_len xs o
      simp only [List.length_cons]
      omega
    | true =>
      rw [if_pos rfl]
      cases hc : codeR x.2 with
      | none => simp
      | some b =>
        have h1 := code_len hc
        have h2 := asm_len xs (o ++ b)
        simp only [List.length_append, List.length_cons] at h2 ⊢
        omega
theorem asm_size (l : L8) : (asmL l).1.length ≤ 4 * l.length := by
  have h := asm_len (numd 0 (linesL l)) []
  have h2 := lns_len l.length l
  rw [numd_len] at h
  unfold asmL
  have h3 : (linesL l).length ≤ l.length := h2
  simp only [List.length_nil] at h
  omega
set_option maxHeartbeats 1000000 in
theorem joins_walk (A B : ByteArray) (w : World) (hl : Lw w) : Calls Tryd.prog 3 #[.string A, .string B] w fun e w' => e = .returned (.bool true) ∧ Below w.heap.size w w' := by
  have K4 : Hid (∀ w', Below w.heap.size w w' → Calls Tryd.prog 4 #[] w' fun e w'' => e = .returned (.bool true) ∧ Below w'.heap.size w' w'') := fun w' h => awake6 w' (hl.keep h)
  by_cases h1 : 1000 < A.size
  · have g1 : (1000 : Int) < (A.size : Int) := by omega
    have KA := K4.out w (Below.refl _ _)
    clear hl
    go_enter Tryd.func3, Tryd.ntmps3
    go_wp2_with fail
    refine KA.mono ?_
    rintro e w2 ⟨rfl, hb2⟩
    go_wp2
    go_ret
    exact ⟨rfl, hb2⟩
  · have g1 : decide ((1000 : Int) < (A.size : Int)) = false := decide_eq_false (by omega)
    have g1' : (A.size : Int) ≤ 1000 := by omega
    by_cases h2 : 1000 < B.size
    · have g2 : (1000 : Int) < (B.size : Int) := by omega
      have KA := K4.out w (Below.refl _ _)
      clear hl h1
      go_enter Tryd.func3, Tryd.ntmps3
      go_wp2_with fail
      refine KA.mono ?_
      rintro e w2 ⟨rfl, hb2⟩
      go_wp2
      go_ret
      exact ⟨rfl, hb2⟩
    · have g2 : decide ((1000 : Int) < (B.size : Int)) = false := decide_eq_false (by omega)
      have g2' : (B.size : Int) ≤ 1000 := by omega
      have hA : (⟨A.toList.toArray⟩ : ByteArray) = A := ba_list A
      have hB : (⟨B.toList.toArray⟩ : ByteArray) = B := ba_list B
      obtain ⟨Y, hY⟩ : ∃ z : ByteArray, z = A ++ ⟨#[10, 10, 35, 32, 110, 111, 116, 101, 10]⟩ := ⟨_, rfl⟩
      obtain ⟨Z, hZ⟩ : ∃ z : ByteArray, z = Y ++ B := ⟨_, rfl⟩
      have sY : Y.size = A.size + 9 := by rw [hY, ByteArray.size_append]; rfl
      have sZ : Z.size = A.size + 9 + B.size := by rw [hZ, ByteArray.size_append, sY]
      have a1 : ∀ wx, (Op.stringOp .add A ⟨#[10, 10, 35, 32, 110, 111, 116, 101, 10]⟩).run Tryd.prog wx = .ok (.string Y) wx := fun wx => by rw [hY]; exact run_string_add_sum wx _ _ (by rw [← ByteArray.size_append, ← hY]; omega)
      have a2 : ∀ wx, (Op.stringOp .add Y B).run Tryd.prog wx = .ok (.string Z) wx := fun wx => by rw [hZ]; exact run_string_add_sum wx _ _ (by rw [← ByteArray.size_append, ← hZ]; omega)
      have hZl : Z = ⟨(A.toList ++ noteL ++ B.toList).toArray⟩ := by
        rw [hZ, hY, ← ba_app, ← ba_app, hA, hB]
        rfl
      have KA := assemble11 A.toList (by rw [bt_len]; omega) w hl
      rw [hA] at KA
      have KB : Hid (∀ w', Below w.heap.size w w' → Calls Tryd.prog 5 #[.string B] w' fun e w'' => e = .returned (asmV B.toList) ∧ Below w'.heap.size w' w'') := fun w' h => by
        have := assemble11 B.toList (by rw [bt_len]; omega) w' (hl.keep h)
        rw [hB] at this
        exact this
      have KZ : Hid (∀ w', Below w.heap.size w w' → Calls Tryd.prog 5 #[.string Z] w' fun e w'' => e = .returned (asmV (A.toList ++ noteL ++ B.toList)) ∧ Below w'.heap.size w' w'') := fun w' h => by
        have := assemble11 (A.toList ++ noteL ++ B.toList) (by simp only [List.length_append, bt_len]; show _ + 9 + _ ≤ _; omega) w' (hl.keep h)
        rw [← hZl] at this
        exact this
      have hj := asm_join A.toList B.toList
      have hsz : (asmL A.toList).1.length ≤ 4000 ∧ (asmL B.toList).1.length ≤ 4000 := ⟨by have := asm_size A.toList; rw [bt_len] at this; omega, by have := asm_size B.toList; rw [bt_len] at this; omega⟩
      unfold asmV at KA KB KZ
      generalize asmL A.toList = ra at KA hj hsz
      generalize asmL B.toList = rb at KB hj hsz
      generalize asmL (A.toList ++ noteL ++ B.toList) = rz at KZ hj
      obtain ⟨ra1, ra2, ra3⟩ := ra
      obtain ⟨rb1, rb2, rb3⟩ := rb
      obtain ⟨rz1, rz2, rz3⟩ := rz
      simp only [] at KA KB KZ hj hsz
      clear hl h1 h2 hA hB hY hZ sY sZ hZl
      rcases hj with ⟨rfl, rfl, rfl, rfl⟩ | ⟨⟨ho, rfl, rfl⟩, ha, hb⟩
      · obtain ⟨XA, hXA⟩ : ∃ z : ByteArray, z = ⟨ra1.toArray⟩ := ⟨_, rfl⟩
        obtain ⟨XB, hXB⟩ : ∃ z : ByteArray, z = ⟨rb1.toArray⟩ := ⟨_, rfl⟩
        obtain ⟨XZ, hXZ⟩ : ∃ z : ByteArray, z = ⟨(ra1 ++ rb1).toArray⟩ := ⟨_, rfl⟩
        have hsum : XA ++ XB = XZ := by rw [hXA, hXB, hXZ, ba_app]
        rw [← hXA] at KA
        rw [← hXB] at KB
        rw [← hXZ] at KZ
        have asm : ∀ wx, (Op.stringOp .add XA XB).run Tryd.prog wx = .ok (.string XZ) wx := fun wx => by
          rw [← hsum]
          exact run_string_add_sum wx _ _ (by have h1 := hsz.1; have h2 := hsz.2; rw [hXA, hXB]; show Array.size _ + Array.size _ ≤ _; simp; omega)
        clear hXA hXB hXZ hsum hsz
        go_enter Tryd.func3, Tryd.ntmps3
        go_wp2_with fail
        refine KA.mono ?_
        rintro e w1 ⟨rfl, hb1⟩
        have HB1 : Hid (Below w.heap.size w w1) := hb1
        have K := KB.out w1 hb1
        clear KA hb1
        go_wp2_with fail
        refine K.mono ?_
        rintro e w2 ⟨rfl, hb2⟩
        have HB2 : Hid (Below w.heap.size w w2) := below_tr HB1.out hb2
        clear K hb2
        have K := KZ.out w2 HB2.out
        go_wp2_with fail
        refine K.mono ?_
        rintro e w3 ⟨rfl, hb3⟩
        have HB3 : Hid (Below w.heap.size w w3) := below_tr HB2.out hb3
        clear K hb3
        have K := K4.out w3 HB3.out
        go_wp2_with fail
        refine K.mono ?_
        rintro e w4 ⟨rfl, hb4⟩
        have HB4 : Hid (Below w.heap.size w w4) := below_tr HB3.out hb4
        clear K hb4
        go_wp2
        go_ret
        exact ⟨rfl, HB4.out⟩
      · rcases ha with rfl | rfl
        · have hb : rb3 = 110 := by
            rcases ho with h | h
            · cases h
            · exact h
          subst hb
          clear ho hsz
          go_enter Tryd.func3, Tryd.ntmps3
          go_wp2_with fail
          refine KA.mono ?_
          rintro e w1 ⟨rfl, hb1⟩
          have HB1 : Hid (Below w.heap.size w w1) := hb1
          have K := KB.out w1 hb1
          clear KA hb1
          go_wp2_with fail
          refine K.mono ?_
          rintro e w2 ⟨rfl, hb2⟩
          have HB2 : Hid (Below w.heap.size w w2) := below_tr HB1.out hb2
          clear K hb2
          have K := KZ.out w2 HB2.out
          go_wp2_with fail
          refine K.mono ?_
          rintro e w3 ⟨rfl, hb3⟩
          have HB3 : Hid (Below w.heap.size w w3) := below_tr HB2.out hb3
          clear K hb3
          have K := K4.out w3 HB3.out
          go_wp2_with fail
          refine K.mono ?_
          rintro e w4 ⟨rfl, hb4⟩
          have HB4 : Hid (Below w.heap.size w w4) := below_tr HB3.out hb4
          clear K hb4
          go_wp2
          go_ret
          exact ⟨rfl, HB4.out⟩
        · rcases hb with rfl | rfl
          · clear ho hsz
            go_enter Tryd.func3, Tryd.ntmps3
            go_wp2_with fail
            refine KA.mono ?_
            rintro e w1 ⟨rfl, hb1⟩
            have HB1 : Hid (Below w.heap.size w w1) := hb1
            have K := KB.out w1 hb1
            clear KA hb1
            go_wp2_with fail
            refine K.mono ?_
            rintro e w2 ⟨rfl, hb2⟩
            have HB2 : Hid (Below w.heap.size w w2) := below_tr HB1.out hb2
            clear K hb2
            have K := KZ.out w2 HB2.out
            go_wp2_with fail
            refine K.mono ?_
            rintro e w3 ⟨rfl, hb3⟩
            have HB3 : Hid (Below w.heap.size w w3) := below_tr HB2.out hb3
            clear K hb3
            have K := K4.out w3 HB3.out
            go_wp2_with fail
            refine K.mono ?_
            rintro e w4 ⟨rfl, hb4⟩
            have HB4 : Hid (Below w.heap.size w w4) := below_tr HB3.out hb4
            clear K hb4
            go_wp2
            go_ret
            exact ⟨rfl, HB4.out⟩
          · clear ho hsz
            go_enter Tryd.func3, Tryd.ntmps3
            go_wp2_with fail
            refine KA.mono ?_
            rintro e w1 ⟨rfl, hb1⟩
            have HB1 : Hid (Below w.heap.size w w1) := hb1
            have K := KB.out w1 hb1
            clear KA hb1
            go_wp2_with fail
            refine K.mono ?_
            rintro e w2 ⟨rfl, hb2⟩
            have HB2 : Hid (Below w.heap.size w w2) := below_tr HB1.out hb2
            clear K hb2
            have K := KZ.out w2 HB2.out
            go_wp2_with fail
            refine K.mono ?_
            rintro e w3 ⟨rfl, hb3⟩
            have HB3 : Hid (Below w.heap.size w w3) := below_tr HB2.out hb3
            clear K hb3
            have K := K4.out w3 HB3.out
            go_wp2_with fail
            refine K.mono ?_
            rintro e w4 ⟨rfl, hb4⟩
            have HB4 : Hid (Below w.heap.size w w4) := below_tr HB3.out hb4
            clear K hb4
            go_wp2
            go_ret
            exact ⟨rfl, HB4.out⟩
end Go.Proofs.YtglkkeelocdanaaDoor
