/- What is proved here: the walks of AsmTexts and AsmBack. -/
import Derived.Test.YtglkkeelocdanaaGreatDoorOb
import Derived.Test.YtglkkeelocdanaaGreatDoorOj
import Derived.Test.YtglkkeelocdanaaGreatDoorOk
import Derived.Test.YtglkkeelocdanaaGreatDoorNw
namespace Go.Proofs.YtglkkeelocdanaaGreatDoor
open Go.RowKit
set_option linter.unusedVariables false
set_option linter.unusedSimpArgs false
set_option maxRecDepth 100000
theorem dec_len10 : ∀ (k u : Nat), u < 10 ^ (k + 1) → (Lib.decDigits u).length ≤ k + 1
  | 0, u, h => by rw [dec_one u (by simpa using h)]; simp
  | k + 1, u, h => by
    by_cases h10 : 10 ≤ u
    · rw [dec_step u h10, List.length_append, List.length_singleton]
      have := dec_len10 k (u / 10) (by rw [Nat.pow_succ] at h; omega)
      omega
    · rw [dec_one u (by omega)]; simp
theorem itoa_len10 (n : Int) (h : n.natAbs < 100000000) : (Lib.itoa n).length ≤ 9 := by
  unfold Lib.itoa
  split
  · have := dec_len10 7 n.natAbs h
    rw [List.length_cons]; omega
  · have := dec_len10 7 n.toNat (by show _ < 100000000; omega)
    omega
theorem told_len10 (i : In) (hb : Bd i) (x : L8) : (toldL i x).length ≤ 9 * x.length := by
  have b1 := hb.rs; have b2 := hb.rt; have b3 := hb.rd; have b4 := hb.sa; have b5 := hb.imm
  unfold toldL
  split
  · rename_i h; rw [h]; have := itoa_len10 i.rs (by omega); simp only [List.length_singleton]; omega
  split
  · rename_i h; rw [h]; have := itoa_len10 i.rt (by omega); simp only [List.length_singleton]; omega
  split
  · rename_i h; rw [h]; have := itoa_len10 i.rd (by omega); simp only [List.length_singleton]; omega
  split
  · rename_i h; rw [h]; have := itoa_len10 i.sa (by omega); simp only [List.length_singleton]; omega
  split
  · rename_i h; rw [h]
    have hs : -32768 ≤ sgn i.imm ∧ sgn i.imm < 32768 := by unfold sgn; split <;> omega
    have := itoa_len10 (sgn i.imm) (by omega)
    simp only [List.length_singleton]; omega
  split
  · rename_i h; rw [h]; have := itoa_len10 (i.imm : Int) (by omega); simp only [List.length_singleton]; omega
  · omega
theorem flat_len10 (i : In) (hb : Bd i) : ∀ xs : List L8, (xs.flatMap (toldL i)).length ≤ 9 * xs.flatten.length
  | [] => by simp
  | x :: t => by
    have h1 := told_len10 i hb x
    have h2 := flat_len10 i hb t
    rw [List.flatMap_cons, List.length_append, List.flatten_cons, List.length_append]
    omega
theorem line_len10 {i : In} (h : isIns i = true) : (lineL i).length ≤ 196 := by
  have e : lineL i = i.name.toList ++ tailL i := by unfold lineL; rw [h]; rfl
  obtain ⟨a, ha, p⟩ := in_p h
  have h1 : i.name.toList.length ≤ 16 := by rw [p.name]; exact of_decide_eq_true (List.all_eq_true.1 names_len _ (List.getElem_mem ha))
  have h2 := flat_len10 i (in_bd h) (partsL (patL i.name.toList (formL8 i.name) (i.imm == 0)))
  have h3 : (partsL (patL i.name.toList (formL8 i.name) (i.imm == 0))).flatten = patL i.name.toList (formL8 i.name) (i.imm == 0) := by unfold partsL; rw [ptR_flat]; rfl
  rw [h3] at h2
  have h4 := pat_size i.name.toList (formL8 i.name) (i.imm == 0)
  rw [e, List.length_append]
  unfold tailL
  omega
theorem lst_len (l : L8) (hl : l.length ≤ 400) (a : Nat) : (lstL l a).length ≤ 30000 := by
  have key : ∀ j, (outL l a j).length ≤ 210 * j
    | 0 => by simp [outL]
    | j + 1 => by
      have h1 : ∀ j, (outL l a j).length ≤ 210 * j := fun j => by
        induction j with
        | zero => simp [outL]
        | succ j ih =>
          rw [outL_snoc, List.length_append]
          have hw : (wdL ⟨(ck l j).toArray⟩).length ≤ 196 := by
            unfold wdL
            split
            · rename_i h
              rw [Bool.and_eq_true] at h
              exact line_len10 (back1 h.1).1
            · rw [List.length_append, hex_len, bt_len]
              have h4 : (⟨(ck l j).toArray⟩ : ByteArray).size ≤ 4 := by show Array.size _ ≤ _; have := ck_len l j; simpa using this
              show 8 + _ ≤ _
              omega
          have hh : (lnL l a j).length ≤ 210 := by
            unfold lnL
            have h2 : (hexL (W.putBeS ((a + 4 * j) % 4294967296) 4).toList).length = 8 := by rw [hex_len, bt_len, pb_len]
            simp only [List.length_append, h2]
            simp
            omega
          omega
      exact h1 (j + 1)
  have h := key (ckN l)
  unfold lstL
  have : ckN l ≤ 100 := by unfold ckN; omega
  omega
set_option maxHeartbeats 1000000 in
theorem texts_walk (C : ByteArray) (a : Nat) (ha : a < 4294967296) (T : ByteArray) (w : World) (hl : Lw w) : Calls Tryz.prog 4 #[.string C, .int .u32 (a : Int), .string T] w fun e w' => e = .returned (.bool true) ∧ Below w.heap.size w w' := by
  have K6 : Hid (∀ w', Below w.heap.size w w' → Calls Tryz.prog 6 #[] w' fun e w'' => e = .returned (.bool true) ∧ Below w'.heap.size w' w'') := fun w' h => awake6 w' (hl.keep h)
  by_cases h1 : 400 < C.size
  · have g1 : (400 : Int) < (C.size : Int) := by omega
    have KA := K6.out w (Below.refl _ _)
    clear hl
    go_enter Tryz.func4, Tryz.ntmps4
    go_wp2_with fail
    refine KA.mono ?_
    rintro e w2 ⟨rfl, hb2⟩
    go_wp2
    go_ret
    exact ⟨rfl, hb2⟩
  · have g1 : decide ((400 : Int) < (C.size : Int)) = false := decide_eq_false (by omega)
    have g1' : (C.size : Int) ≤ 400 := by omega
    by_cases h2 : 2000 < T.size
    · have g2 : (2000 : Int) < (T.size : Int) := by omega
      have KA := K6.out w (Below.refl _ _)
      clear hl h1
      go_enter Tryz.func4, Tryz.ntmps4
      go_wp2_with fail
      refine KA.mono ?_
      rintro e w2 ⟨rfl, hb2⟩
      go_wp2
      go_ret
      exact ⟨rfl, hb2⟩
    · have g2 : decide ((2000 : Int) < (T.size : Int)) = false := decide_eq_false (by omega)
      have g2' : (T.size : Int) ≤ 2000 := by omega
      have hT : (⟨T.toList.toArray⟩ : ByteArray) = T := ba_list T
      have hC : (⟨C.toList.toArray⟩ : ByteArray) = C := ba_list C
      have K11 := assemble11 T.toList (by rw [bt_len]; omega) w hl
      have K12 : Hid (∀ w', Calls Tryz.prog 12 #[.string T] w' fun e w'' => e = .returned (asmV T.toList) ∧ Below w'.heap.size w' w'') := fun w' => by
        have := rassemble12 T.toList (by rw [bt_len]; omega) w'
        rw [hT] at this
        exact this
      have K13 : Hid (∀ w', Below w.heap.size w w' → Calls Tryz.prog 13 #[.string C, .int .u32 (a : Int)] w' fun e w'' => e = .returned (.string ⟨(lstL C.toList a).toArray⟩) ∧ Below w'.heap.size w' w'') := fun w' h => by
        have := listing13 C.toList (by rw [bt_len]; omega) a ha w' (hl.keep h)
        rw [hC] at this
        exact this
      have K14 : Hid (∀ w', Calls Tryz.prog 14 #[.string C, .int .u32 (a : Int)] w' fun e w'' => e = .returned (.string ⟨(lstL C.toList a).toArray⟩) ∧ Below w'.heap.size w' w'') := fun w' => by
        have := rlisting14 C.toList (by rw [bt_len]; omega) a ha w'
        rw [hC] at this
        exact this
      rw [hT] at K11
      unfold asmV at K11 K12
      generalize (⟨(lstL C.toList a).toArray⟩ : ByteArray) = LS at K13 K14
      generalize (⟨(asmL T.toList).1.toArray⟩ : ByteArray) = AB at K11 K12
      generalize (asmL T.toList).2.1 = an at K11 K12
      generalize (asmL T.toList).2.2 = ae at K11 K12
      clear hl h1 h2 hT hC
      go_enter Tryz.func4, Tryz.ntmps4
      go_wp2_with fail
      refine K11.mono ?_
      rintro e w1 ⟨rfl, hb1⟩
      have HB1 : Hid (Below w.heap.size w w1) := hb1
      have K := K12.out w1
      clear K11 K12 hb1
      go_wp2_with fail
      refine K.mono ?_
      rintro e w2 ⟨rfl, hb2⟩
      have HB2 : Hid (Below w.heap.size w w2) := below_tr HB1.out hb2
      clear K hb2
      have K := K13.out w2 HB2.out
      go_wp2_with fail
      refine K.mono ?_
      rintro e w3 ⟨rfl, hb3⟩
      have HB3 : Hid (Below w.heap.size w w3) := below_tr HB2.out hb3
      clear K hb3
      have K := K14.out w3
      go_wp2_with fail
      refine K.mono ?_
      rintro e w4 ⟨rfl, hb4⟩
      have HB4 : Hid (Below w.heap.size w w4) := below_tr HB3.out hb4
      clear K hb4
      have K := K6.out w4 HB4.out
      go_wp2_with fail
      refine K.mono ?_
      rintro e w5 ⟨rfl, hb5⟩
      have HB5 : Hid (Below w.heap.size w w5) := below_tr HB4.out hb5
      clear K hb5
      go_wp2
      go_ret
      exact ⟨rfl, HB5.out⟩
set_option maxHeartbeats 1000000 in
theorem back_walk (i : In) (hi : i.imm < 4294967296) (C : ByteArray) (a : Nat) (ha : a < 4294967296) (w : World) (hl : Lw w) : Calls Tryz.prog 5 #[i.val, .string C, .int .u32 (a : Int)] w fun e w' => e = .returned (.bool true) ∧ Below w.heap.size w w' := by
  obtain ⟨W, hW⟩ : ∃ z, w.alloc (.cells #[.string i.name, .int .i64 i.rs, .int .i64 i.rt, .int .i64 i.rd, .int .i64 i.sa, .int .u32 (i.imm : Int)] 24) = z := ⟨_, rfl⟩
  have hb : Below w.heap.size w W := by rw [← hW]; exact (Below.refl _ _).alloc (Nat.le_refl _) _
  have iw : In6 i w.heap.size W := by rw [← hW]; exact In6.new i w
  have K6 : Hid (∀ w', Below w.heap.size w w' → Calls Tryz.prog 6 #[] w' fun e w'' => e = .returned (.bool true) ∧ Below w'.heap.size w' w'') := fun w' h => awake6 w' (hl.keep h)
  have HB : Hid (Below w.heap.size w W ∧ In6 i w.heap.size W) := ⟨hb, iw⟩
  by_cases h1 : 400 < C.size
  · have g1 : (400 : Int) < (C.size : Int) := by omega
    have KA := K6.out W hb
    unfold In.val
    clear hl hb iw hi
    go_enter Tryz.func5, Tryz.ntmps5
    go_wp2_with fail
    refine KA.mono ?_
    rintro e w2 ⟨rfl, hb2⟩
    go_wp2
    go_ret
    exact ⟨rfl, below_tr HB.out.1 hb2⟩
  · have g1 : decide ((400 : Int) < (C.size : Int)) = false := decide_eq_false (by omega)
    have g1' : (C.size : Int) ≤ 400 := by omega
    have g1'' : ¬ (400 : Int) < (C.size : Int) := by omega
    have hC : (⟨C.toList.toArray⟩ : ByteArray) = C := ba_list C
    have hcl : C.toList.length ≤ 400 := by rw [bt_len]; omega
    have K9 := line9 i hi W (hl.keep hb)
    have K15 : Hid (∀ w', Calls Tryz.prog 15 #[i.val] w' fun e w'' => e = .returned (.tuple #[.int .u32 (encN i : Int), .bool (isIns i)]) ∧ Below w'.heap.size w' w'') := fun w' => encD15 i hi w'
    have K13 : Hid (∀ w', Below w.heap.size w w' → Calls Tryz.prog 13 #[.string C, .int .u32 (a : Int)] w' fun e w'' => e = .returned (.string ⟨(lstL C.toList a).toArray⟩) ∧ Below w'.heap.size w' w'') := fun w' h => by
      have := listing13 C.toList (by omega) a ha w' (hl.keep h)
      rw [hC] at this
      exact this
    have K11 : Hid (∀ w', Below w.heap.size w w' → Calls Tryz.prog 11 #[.string ⟨(lstL C.toList a).toArray⟩] w' fun e w'' => e = .returned (.tuple #[.string C, .int .i64 0, .int .i64 0]) ∧ Below w'.heap.size w' w'') := fun w' h => by
      have := assemble11 (lstL C.toList a) (by have := lst_len C.toList hcl a; omega) w' (hl.keep h)
      unfold asmV at this
      rw [asm_back] at this
      have e : (⟨(C.toList, ((0 : Nat), (0 : Int))).1.toArray⟩ : ByteArray) = C := hC
      rw [e] at this
      exact this
    generalize (⟨(lstL C.toList a).toArray⟩ : ByteArray) = LS at K13 K11
    cases hib : isIns i with
    | false =>
      have hle : lineL i = [] := by unfold lineL; rw [hib]; rfl
      rw [hib] at K15
      rw [hle] at K9
      have K9 : Calls Tryz.prog 9 #[i.val] W fun e w' => e = .returned (.string ⟨#[]⟩) ∧ Below W.heap.size W w' := K9
      generalize encN i = en at K15
      unfold In.val at K9 K15 ⊢
      obtain ⟨d0, d1, d2, d3, d4, d5⟩ := iw.cells
      clear hl hb iw hi hib hle hC hcl h1
      go_enter Tryz.func5, Tryz.ntmps5
      go_wp2_with fail
      refine K9.mono ?_
      rintro e w1 ⟨rfl, hb1⟩
      have HB1 : Hid (Below w.heap.size w w1) := below_tr HB.out.1 hb1
      obtain ⟨d0, d1, d2, d3, d4, d5⟩ := (HB.out.2.keep hb1).cells
      have K := K15.out w1
      clear K9 K15 hb1
      go_wp2_with fail
      refine K.mono ?_
      rintro e w2 ⟨rfl, hb2⟩
      have HB2 : Hid (Below w.heap.size w w2) := below_tr HB1.out hb2
      clear K hb2
      have K := K13.out w2 HB2.out
      go_wp2_with fail
      refine K.mono ?_
      rintro e w5 ⟨rfl, hb5⟩
      have HB5 : Hid (Below w.heap.size w w5) := below_tr HB2.out hb5
      clear K hb5
      have K := K11.out w5 HB5.out
      go_wp2_with fail
      refine K.mono ?_
      rintro e w6 ⟨rfl, hb6⟩
      have HB6 : Hid (Below w.heap.size w w6) := below_tr HB5.out hb6
      clear K hb6
      have K := K6.out w6 HB6.out
      go_wp2_with fail
      refine K.mono ?_
      rintro e w7 ⟨rfl, hb7⟩
      have HB7 : Hid (Below w.heap.size w w7) := below_tr HB6.out hb7
      clear K hb7
      go_wp2
      go_ret
      exact ⟨rfl, HB7.out⟩
    | true =>
      have hne : (lineL i) ≠ [] := line_nil hib
      have hpi : parI (lineL i) = i ∧ parE (lineL i) = 0 := by unfold parI parE; rw [ins_line hib]; exact ⟨rfl, rfl⟩
      have K7 : Hid (∀ w', Below w.heap.size w w' → Calls Tryz.prog 7 #[.string ⟨(lineL i).toArray⟩] w' fun e w'' => e = .returned (.tuple #[i.val, .int .i64 0]) ∧ Below w'.heap.size w' w'') := fun w' h => by
        have := parse7 (lineL i) (by have := line_len10 hib; omega) w' (hl.keep h)
        rw [hpi.1, hpi.2] at this
        exact this
      rw [hib] at K15
      obtain ⟨LN, hLN⟩ : ∃ z : ByteArray, z = ⟨(lineL i).toArray⟩ := ⟨_, rfl⟩
      have hem : LN.toList.isEmpty = false := by
        rw [hLN, bal]
        cases hh : lineL i with
        | nil => exact absurd hh hne
        | cons c t => rfl
      rw [← hLN] at K9 K7
      have heq : ∀ wx, (binOp .neq 24 (.agg #[.string i.name, .int .i64 i.rs, .int .i64 i.rt, .int .i64 i.rd, .int .i64 i.sa, .int .u32 (i.imm : Int)]) (.agg #[.string i.name, .int .i64 i.rs, .int .i64 i.rt, .int .i64 i.rd, .int .i64 i.sa, .int .u32 (i.imm : Int)])).run Tryz.prog wx = .ok (.bool false) wx := fun wx => by
        simp [go_sem]
      generalize encN i = en at K15
      unfold In.val at K9 K15 K7 ⊢
      obtain ⟨d0, d1, d2, d3, d4, d5⟩ := iw.cells
      clear hl hb iw hi hib hne hpi hLN hC hcl h1
      go_enter Tryz.func5, Tryz.ntmps5
      go_wp2_with fail
      refine K9.mono ?_
      rintro e w1 ⟨rfl, hb1⟩
      have HB1 : Hid (Below w.heap.size w w1) := below_tr HB.out.1 hb1
      have HI1 : Hid (In6 i w.heap.size w1) := HB.out.2.keep hb1
      obtain ⟨d0, d1, d2, d3, d4, d5⟩ := HI1.out.cells
      have K := K15.out w1
      clear K9 K15 hb1
      go_wp2_with fail
      refine K.mono ?_
      rintro e w2 ⟨rfl, hb2⟩
      have HB2 : Hid (Below w.heap.size w w2) := below_tr HB1.out hb2
      have HI2 : Hid (In6 i w.heap.size w2) := HI1.out.keep hb2
      clear K hb2 d0 d1 d2 d3 d4 d5
      have K := K7.out w2 HB2.out
      go_wp2_with fail
      refine K.mono ?_
      rintro e w3 ⟨rfl, hb3⟩
      clear K
      have hb3' := below_tr HB2.out hb3
      obtain ⟨W3, hW3⟩ : ∃ z, w3.alloc (.cells #[.string i.name, .int .i64 i.rs, .int .i64 i.rt, .int .i64 i.rd, .int .i64 i.sa, .int .u32 (i.imm : Int)] 24) = z := ⟨_, rfl⟩
      have hbw : Below w3.heap.size w3 W3 := by rw [← hW3]; exact (Below.refl _ _).alloc (Nat.le_refl _) _
      have i3 : In6 i w3.heap.size W3 := by rw [← hW3]; exact In6.new i w3
      have HB3 : Hid (Below w.heap.size w W3) := below_tr hb3' hbw
      obtain ⟨d0, d1, d2, d3, d4, d5⟩ := ((HI2.out.keep hb3).keep hbw).cells
      obtain ⟨p0, p1, p2, p3, p4, p5⟩ := i3.cells
      clear hb3 hb3' hbw i3
      have K := K13.out W3 HB3.out
      go_wp2_with fail
      refine K.mono ?_
      rintro e w5 ⟨rfl, hb5⟩
      have HB5 : Hid (Below w.heap.size w w5) := below_tr HB3.out hb5
      clear K hb5
      have K := K11.out w5 HB5.out
      go_wp2_with fail
      refine K.mono ?_
      rintro e w6 ⟨rfl, hb6⟩
      have HB6 : Hid (Below w.heap.size w w6) := below_tr HB5.out hb6
      clear K hb6
      have K := K6.out w6 HB6.out
      go_wp2_with fail
      refine K.mono ?_
      rintro e w7 ⟨rfl, hb7⟩
      have HB7 : Hid (Below w.heap.size w w7) := below_tr HB6.out hb7
      clear K hb7
      go_wp2
      go_ret
      exact ⟨rfl, HB7.out⟩
end Go.Proofs.YtglkkeelocdanaaGreatDoor
