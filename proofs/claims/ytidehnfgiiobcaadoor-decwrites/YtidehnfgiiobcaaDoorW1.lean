/- What is proved here: the walks of DecForms and DecBack. -/
import Derived.Test.YtidehnfgiiobcaaDoorAw
namespace Go.Proofs.YtidehnfgiiobcaaDoor
open Go.RowKit
set_option linter.unusedVariables false
set_option linter.unusedSimpArgs false
set_option maxRecDepth 100000
theorem forms_some : rowsL.all (fun r => !(r.form.toList.isEmpty)) = true := by decide +kernel
theorem dec_fields {x : Nat} (h : isWord x = true) : (0 ≤ (decN x).rs ∧ (decN x).rs ≤ 31) ∧ (0 ≤ (decN x).rt ∧ (decN x).rt ≤ 31) ∧ (0 ≤ (decN x).rd ∧ (decN x).rd ≤ 31) ∧ (0 ≤ (decN x).sa ∧ (decN x).sa ≤ 31) ∧ (decN x).imm < 67108864 ∧ (foundR (nameB (decN x).name)).form.toList.isEmpty = false := by
  obtain ⟨a, ha, hm, hd⟩ := word_is h
  have hok := row_ok (List.getElem_mem ha)
  have hn : (decN x).name = rowsL[a].name := by rw [hd]; rfl
  have hF : foundR (nameB (decN x).name) = rowsL[a] := by rw [foundR, found_name ha _ hn]; rfl
  have hf := List.all_eq_true.1 forms_some rowsL[a] (List.getElem_mem ha)
  rw [hF]
  have l : ∀ y : Nat, y % 32 < 32 := fun y => Nat.mod_lt _ (by decide)
  have e1 : (decN x).rs = (((x &&& rowsL[a].shape.few) / 2097152 % 32 : Nat) : Int) := by rw [hd]; rfl
  have e2 : (decN x).rt = (((x &&& rowsL[a].shape.few) / 65536 % 32 : Nat) : Int) := by rw [hd]; rfl
  have e3 : (decN x).rd = (((x &&& rowsL[a].shape.few) / 2048 % 32 : Nat) : Int) := by rw [hd]; rfl
  have e4 : (decN x).sa = (((x &&& rowsL[a].shape.few) / 64 % 32 : Nat) : Int) := by rw [hd]; rfl
  have e5 : (decN x).imm = (x &&& rowsL[a].shape.great) / 2 ^ tzN rowsL[a].shape.great := by rw [hd]; rfl
  have l1 := l ((x &&& rowsL[a].shape.few) / 2097152)
  have l2 := l ((x &&& rowsL[a].shape.few) / 65536)
  have l3 := l ((x &&& rowsL[a].shape.few) / 2048)
  have l4 := l ((x &&& rowsL[a].shape.few) / 64)
  have hg := great_lt hok.great
  have h1 := Nat.div_le_self (x &&& rowsL[a].shape.great) (2 ^ tzN rowsL[a].shape.great)
  have h2 : x &&& rowsL[a].shape.great ≤ rowsL[a].shape.great := Nat.and_le_right
  refine ⟨⟨by omega, by omega⟩, ⟨by omega, by omega⟩, ⟨by omega, by omega⟩, ⟨by omega, by omega⟩, by rw [e5]; omega, by simpa using hf⟩
theorem bs34 (a b c d : Int) (w : World) : (Instr.buildSlice 34 4 #[(0, .int .i64 a), (1, .int .i64 b), (2, .int .i64 c), (3, .int .i64 d)]).run Tryd.prog w = .ok (.slice (some ⟨w.heap.size, 0, none⟩) 4 4) (w.alloc (.cells #[.int .i64 a, .int .i64 b, .int .i64 c, .int .i64 d] 3)) := by kernel_rfl
set_option maxHeartbeats 1000000 in
theorem forms_walk (x : Nat) (hx : x < 4294967296) (w : World) (ht : Tab w) : Calls Tryd.prog 6 #[.int .u32 (x : Int)] w fun e w' => e = .returned (.bool true) ∧ Below w.heap.size w w' := by
  have K8 := decode8 x hx w ht
  have HT : Hid (∀ w', Below w.heap.size w w' → Tab w') := fun w' h => ht.keep h
  have hfd := fun h => dec_fields (x := x) h
  have K13 : Hid (∀ w', Calls Tryd.prog 13 #[.string (decN x).name] w' fun e w'' => e = .returned (.string (foundR (nameB (decN x).name)).form) ∧ Below w'.heap.size w' w'') := fun w' => form13 _ w'
  generalize foundR (nameB (decN x).name) = R at K13 hfd
  generalize decN x = I at K8 K13 hfd
  generalize isWord x = iw at K8 hfd
  obtain ⟨n1, r1, r2, r3, r4, m1⟩ := I
  simp only [In.val] at K8 K13 hfd
  clear ht hx
  cases iw with
  | false =>
    clear hfd
    go_enter Tryd.func6, Tryd.ntmps6
    go_wp2_with fail
    refine K8.mono ?_
    rintro e w1 ⟨rfl, hb1⟩
    obtain ⟨w2, hw2, hb2, p0, p1, p2, p3, p4, p5⟩ := box6b w1 ⟨n1, r1, r2, r3, r4, m1⟩
    have HB2 : Hid (Below w.heap.size w w2) := below_tr hb1 hb2
    have KA := awake10 w2 (HT.out _ HB2.out)
    simp only at hw2
    clear K8 hb1 hb2
    go_wp2_with fail
    refine KA.mono ?_
    rintro e w3 ⟨rfl, hb3⟩
    have HBE : Hid (Below w.heap.size w w3) := below_tr HB2.out hb3
    clear KA hb3
    go_wp2
    go_ret
    exact ⟨rfl, HBE.out⟩
  | true =>
    obtain ⟨⟨a1, b1⟩, ⟨a2, b2⟩, ⟨a3, b3⟩, ⟨a4, b4⟩, hm, hfe⟩ := hfd rfl
    have hm' : (m1 : Int) < 67108864 := by omega
    have hb34 := bs34
    clear hfd
    go_enter Tryd.func6, Tryd.ntmps6
    go_wp2_with fail
    refine K8.mono ?_
    rintro e w1 ⟨rfl, hb1⟩
    obtain ⟨w2, hw2, hb2, p0, p1, p2, p3, p4, p5⟩ := box6b w1 ⟨n1, r1, r2, r3, r4, m1⟩
    have HB2 : Hid (Below w.heap.size w w2) := below_tr hb1 hb2
    simp only at hw2 p0 p1 p2 p3 p4 p5
    obtain ⟨w3, hw3, hb3, _, q0, q1, q2, q3, _⟩ := box4 w2 (.int .i64 r1) (.int .i64 r2) (.int .i64 r3) (.int .i64 r4) 3
    have HB3 : Hid (Below w.heap.size w w3) := below_tr HB2.out hb3
    have p0' := keep_cell hb3 p0
    have p5' := keep_cell hb3 p5
    clear K8 hb1 hb2 hb3
    go_wp2
    clear p0 p1 p2 p3 p4 p5 hw2 hw3
    go_loopw [25] (fun i wr => wr = w3 ∧ ∃ k : Nat, k ≤ 4 ∧ i = .int .i64 (k : Int)) (fun i _ => 4 - (intOf i).toNat)
    case atStart => exact ⟨rfl, 0, by decide, rfl⟩
    case round =>
      obtain ⟨rfl, k, hk, rfl⟩ := hrel
      have g1 : ¬ r1 < 0 := by omega
      have g2 : ¬ r2 < 0 := by omega
      have g3 : ¬ r3 < 0 := by omega
      have g4 : ¬ r4 < 0 := by omega
      have k1 : ¬ (31 : Int) < r1 := by omega
      have k2 : ¬ (31 : Int) < r2 := by omega
      have k3 : ¬ (31 : Int) < r3 := by omega
      have k4 : ¬ (31 : Int) < r4 := by omega
      rcases (by omega : k = 0 ∨ k = 1 ∨ k = 2 ∨ k = 3 ∨ k = 4) with rfl | rfl | rfl | rfl | rfl
      · go_wp2
        go_roundw
        case rel => exact ⟨by trivial, 1, by decide, rfl⟩
        case measure => simp [intOf]
      · go_wp2
        go_roundw
        case rel => exact ⟨by trivial, 2, by decide, rfl⟩
        case measure => simp [intOf]
      · go_wp2
        go_roundw
        case rel => exact ⟨by trivial, 3, by decide, rfl⟩
        case measure => simp [intOf]
      · go_wp2
        go_roundw
        case rel => exact ⟨by trivial, 4, by decide, rfl⟩
        case measure => simp [intOf]
      · have KF := K13.out wr
        go_wp2_with fail
        refine KF.mono ?_
        rintro e w5 ⟨rfl, hb5⟩
        have HB5 : Hid (Below w.heap.size w w5) := below_tr HB3.out hb5
        have p5 := keep_cell hb5 p5'
        have KA := awake10 w5 (HT.out _ HB5.out)
        clear KF hb5 K13
        go_wp2_with fail
        refine KA.mono ?_
        rintro e w6 ⟨rfl, hb6⟩
        have HBE : Hid (Below w.heap.size w w6) := below_tr HB5.out hb6
        clear KA hb6
        go_wp2
        go_ret
        exact ⟨rfl, HBE.out⟩
set_option maxHeartbeats 1000000 in
theorem back_walk (x : Nat) (hx : x < 4294967296) (i : In) (hi : i.imm < 4294967296) (w : World) (ht : Tab w) : Calls Tryd.prog 5 #[.int .u32 (x : Int), i.val] w fun e w' => e = .returned (.bool true) ∧ Below w.heap.size w w' := by
  obtain ⟨W, hW, hb, p0, p1, p2, p3, p4, p5⟩ := box6b w i
  have K8 := decode8 x hx W (ht.keep hb)
  have HT : Hid (∀ w', Below W.heap.size W w' → Tab w') := fun w' h => ht.keep (below_tr hb h)
  have HB : Hid (Below w.heap.size w W) := hb
  have hz0 : isWord x = false → decN x = ⟨⟨#[]⟩, 0, 0, 0, 0, 0⟩ := fun h => by rw [decN, h]; rfl
  have hdi : (decN x).imm < 4294967296 := by
    cases h : isWord x with
    | true => have := (dec_fields h).2.2.2.2.1; omega
    | false => rw [hz0 h]; show (0 : Nat) < 4294967296; decide
  have K11 : Hid (∀ w', Tab w' → Calls Tryd.prog 11 #[(decN x).val] w' fun e w'' => e = .returned (.tuple #[.int .u32 (encN (decN x) : Int), .bool (isIns (decN x))]) ∧ Below w'.heap.size w' w'') := fun w' h => encode11 _ hdi w' h
  have J11 : Hid (∀ w', Tab w' → Calls Tryd.prog 11 #[i.val] w' fun e w'' => e = .returned (.tuple #[.int .u32 (encN i : Int), .bool (isIns i)]) ∧ Below w'.heap.size w' w'') := fun w' h => encode11 i hi w' h
  have hel : encN i < 4294967296 := by
    rw [encN]
    split
    · rename_i h
      obtain ⟨a, ha, _, _, he⟩ := ins_is h
      rw [← show encN i = wordN (shOf i) i from by rw [encN, if_pos h], he]
      exact word_lt _ _ (by have := (row_ok (List.getElem_mem ha)).same; show rowsL[a].same < _; omega)
    · decide
  have J8 : Hid (∀ w', Tab w' → Calls Tryd.prog 8 #[.int .u32 (encN i : Int)] w' fun e w'' => e = .returned (.tuple #[(decN (encN i)).val, .bool (isWord (encN i))]) ∧ Below w'.heap.size w' w'') := fun w' h => decode8 _ hel w' h
  have hb1 : isWord x = true → isIns (decN x) = true ∧ encN (decN x) = x := fun h => back1 h
  have hb2 : isIns i = true → isWord (encN i) = true ∧ decN (encN i) = i := fun h => back2 h
  have hz1 : isWord x = false → decN x = ⟨⟨#[]⟩, 0, 0, 0, 0, 0⟩ := fun h => by rw [decN, h]; rfl
  have hz2 : isIns i = false → encN i = 0 := fun h => by rw [encN, h]; rfl
  have EQ : ∀ w', (binOp .eql 24 (decN (encN i)).val i.val).run Tryd.prog w' = .ok (.bool (inEq (decN (encN i)) i)) w' := fun w' => eq24 _ _ w'
  generalize hI2 : decN (encN i) = I2 at J8 hb2 EQ
  generalize isWord (encN i) = iw2 at J8 hb2
  generalize isIns i = ii at J11 hb2 hz2
  generalize encN i = E at J11 J8 hz2
  generalize encN (decN x) = E1 at K11 hb1
  generalize isIns (decN x) = ii1 at K11 hb1
  generalize decN x = I at K8 K11 hz1
  generalize isWord x = iw at K8 hb1 hz1
  clear hdi hel hx hi ht hI2 hb hz0
  have HX1 : Hid (iw = true → ii1 = true ∧ E1 = x) := hb1
  have HX2 : Hid (ii = true → iw2 = true ∧ I2 = i) := hb2
  have HZ1 : Hid (iw = false → I = ⟨⟨#[]⟩, 0, 0, 0, 0, 0⟩) := hz1
  have HZ2 : Hid (ii = false → E = 0) := hz2
  clear hb1 hb2 hz1 hz2
  have HEQ : Hid (ii = true → inEq I2 i = true) := fun h => by rw [(HX2.out h).2]; exact inEq_refl i
  generalize inEq I2 i = q2 at EQ HEQ
  obtain ⟨n1, r1, r2, r3, r4, m1⟩ := I
  obtain ⟨n2, s1, s2, s3, s4, m2⟩ := I2
  obtain ⟨nm, rs, rt, rd, sa, imm⟩ := i
  simp only [In.val] at K8 K11 J11 J8 EQ hW p0 p1 p2 p3 p4 p5 ⊢
  -- the head: Decode, and Encode of it
  have key : ∀ (iw' : Bool), iw' = iw → Calls Tryd.prog 5 #[.int .u32 (x : Int), .agg #[.string nm, .int .i64 rs, .int .i64 rt, .int .i64 rd, .int .i64 sa, .int .u32 (imm : Int)]] w fun e w' => e = .returned (.bool true) ∧ Below w.heap.size w w' := by
    intro iw' hiw
    have HWT : Hid (iw = true → E1 = x ∧ ii1 = true) := fun h => ⟨(HX1.out h).2, (HX1.out h).1⟩
    clear HX1
    cases iw with
    | true =>
      obtain ⟨hE1, hii1⟩ := HWT.out rfl
      subst hE1 hii1
      clear hiw HZ1 HWT
      go_enter Tryd.func5, Tryd.ntmps5
      go_wp2_with fail
      refine K8.mono ?_
      rintro e w1 ⟨rfl, hb1⟩
      obtain ⟨w2, hw2, hb2, k0, k1, k2, k3, k4, k5⟩ := box6b w1 ⟨n1, r1, r2, r3, r4, m1⟩
      have hb12 := below_tr hb1 hb2
      have HB2 : Hid (Below W.heap.size W w2) := hb12
      have p0 := keep_cell hb12 p0
      have p1 := keep_cell hb12 p1
      have p2 := keep_cell hb12 p2
      have p3 := keep_cell hb12 p3
      have p4 := keep_cell hb12 p4
      have p5 := keep_cell hb12 p5
      have K := K11.out w2 (HT.out _ HB2.out)
      simp only at hw2 k0 k1 k2 k3 k4 k5
      clear K8 K11 hb1 hb2 hb12
      go_wp2_with fail
      refine K.mono ?_
      rintro e w3 ⟨rfl, hb3⟩
      have HB3 : Hid (Below W.heap.size W w3) := below_tr HB2.out hb3
      have p0 := keep_cell hb3 p0
      have p1 := keep_cell hb3 p1
      have p2 := keep_cell hb3 p2
      have p3 := keep_cell hb3 p3
      have p4 := keep_cell hb3 p4
      have p5 := keep_cell hb3 p5
      have K := J11.out w3 (HT.out _ HB3.out)
      clear hb3 k0 k1 k2 k3 k4 k5 J11
      go_wp2_with fail
      refine K.mono ?_
      rintro e w4 ⟨rfl, hb4⟩
      have HB4 : Hid (Below W.heap.size W w4) := below_tr HB3.out hb4
      have p0 := keep_cell hb4 p0
      have p1 := keep_cell hb4 p1
      have p2 := keep_cell hb4 p2
      have p3 := keep_cell hb4 p3
      have p4 := keep_cell hb4 p4
      have p5 := keep_cell hb4 p5
      clear K hb4
      cases ii with
      | false =>
        have hE := HZ2.out rfl
        subst hE
        have KA := awake10 w4 (HT.out _ HB4.out)
        clear HX2 HZ2 HEQ J8
        go_wp2_with fail
        refine KA.mono ?_
        rintro e w5 ⟨rfl, hb5⟩
        have HBE : Hid (Below w.heap.size w w5) := below_tr HB.out (below_tr HB4.out hb5)
        clear KA hb5
        go_wp2
        go_ret
        exact ⟨rfl, HBE.out⟩
      | true =>
        obtain ⟨hw2', _⟩ := HX2.out rfl
        subst hw2'
        have hq2 := HEQ.out rfl
        subst hq2
        have K := J8.out w4 (HT.out _ HB4.out)
        clear HX2 HZ2 HEQ J8
        go_wp2_with fail
        refine K.mono ?_
        rintro e w5 ⟨rfl, hb5⟩
        obtain ⟨w6, hw6, hb6, l0, l1, l2, l3, l4, l5⟩ := box6b w5 ⟨n2, s1, s2, s3, s4, m2⟩
        have hb56 := below_tr hb5 hb6
        have HB6 : Hid (Below W.heap.size W w6) := below_tr HB4.out hb56
        have p0 := keep_cell hb56 p0
        have p1 := keep_cell hb56 p1
        have p2 := keep_cell hb56 p2
        have p3 := keep_cell hb56 p3
        have p4 := keep_cell hb56 p4
        have p5 := keep_cell hb56 p5
        have KA := awake10 w6 (HT.out _ HB6.out)
        simp only at hw6 l0 l1 l2 l3 l4 l5
        clear K hb5 hb6 hb56
        go_wp2_with fail
        refine KA.mono ?_
        rintro e w7 ⟨rfl, hb7⟩
        have HBE : Hid (Below w.heap.size w w7) := below_tr HB.out (below_tr HB6.out hb7)
        clear KA hb7
        go_wp2
        go_ret
        exact ⟨rfl, HBE.out⟩
    | false =>
      have hI := HZ1.out rfl
      have EQZ : ∀ w', (binOp .eql 24 (.agg #[.string n1, .int .i64 r1, .int .i64 r2, .int .i64 r3, .int .i64 r4, .int .u32 (m1 : Int)]) (.agg #[.string ⟨#[]⟩, .int .i64 0, .int .i64 0, .int .i64 0, .int .i64 0, .int .u32 0])).run Tryd.prog w' = .ok (.bool true) w' := fun w' => by
        have h := eq24 ⟨n1, r1, r2, r3, r4, m1⟩ ⟨⟨#[]⟩, 0, 0, 0, 0, 0⟩ w'
        rw [(inEq_iff _ _).2 hI] at h
        exact h
      clear hI
      clear hiw HZ1 HWT
      go_enter Tryd.func5, Tryd.ntmps5
      go_wp2_with fail
      refine K8.mono ?_
      rintro e w1 ⟨rfl, hb1⟩
      obtain ⟨w2, hw2, hb2, k0, k1, k2, k3, k4, k5⟩ := box6b w1 ⟨n1, r1, r2, r3, r4, m1⟩
      simp only at hw2 k0 k1 k2 k3 k4 k5
      have hb12 := below_tr hb1 hb2
      have HB2 : Hid (Below W.heap.size W w2) := hb12
      have p0 := keep_cell hb12 p0
      have p1 := keep_cell hb12 p1
      have p2 := keep_cell hb12 p2
      have p3 := keep_cell hb12 p3
      have p4 := keep_cell hb12 p4
      have p5 := keep_cell hb12 p5
      have K := K11.out w2 (HT.out _ HB2.out)
      clear K8 K11 hb1 hb2 hb12
      go_wp2_with fail
      refine K.mono ?_
      rintro e w3 ⟨rfl, hb3⟩
      have HB3 : Hid (Below W.heap.size W w3) := below_tr HB2.out hb3
      have p0 := keep_cell hb3 p0
      have p1 := keep_cell hb3 p1
      have p2 := keep_cell hb3 p2
      have p3 := keep_cell hb3 p3
      have p4 := keep_cell hb3 p4
      have p5 := keep_cell hb3 p5
      have k0 := keep_cell hb3 k0
      have k1 := keep_cell hb3 k1
      have k2 := keep_cell hb3 k2
      have k3 := keep_cell hb3 k3
      have k4 := keep_cell hb3 k4
      have k5 := keep_cell hb3 k5
      have K := J11.out w3 (HT.out _ HB3.out)
      clear hb3 J11
      go_wp2_with fail
      refine K.mono ?_
      rintro e w4 ⟨rfl, hb4⟩
      have HB4 : Hid (Below W.heap.size W w4) := below_tr HB3.out hb4
      have p0 := keep_cell hb4 p0
      have p1 := keep_cell hb4 p1
      have p2 := keep_cell hb4 p2
      have p3 := keep_cell hb4 p3
      have p4 := keep_cell hb4 p4
      have p5 := keep_cell hb4 p5
      have k0 := keep_cell hb4 k0
      have k1 := keep_cell hb4 k1
      have k2 := keep_cell hb4 k2
      have k3 := keep_cell hb4 k3
      have k4 := keep_cell hb4 k4
      have k5 := keep_cell hb4 k5
      clear K hb4
      cases ii with
      | false =>
        have hE := HZ2.out rfl
        subst hE
        have KA := awake10 w4 (HT.out _ HB4.out)
        clear HX2 HZ2 HEQ J8
        go_wp2_with fail
        refine KA.mono ?_
        rintro e w5 ⟨rfl, hb5⟩
        have HBE : Hid (Below w.heap.size w w5) := below_tr HB.out (below_tr HB4.out hb5)
        clear KA hb5
        go_wp2
        go_ret
        exact ⟨rfl, HBE.out⟩
      | true =>
        clear k0 k1 k2 k3 k4 k5
        obtain ⟨hw2', _⟩ := HX2.out rfl
        subst hw2'
        have hq2 := HEQ.out rfl
        subst hq2
        have K := J8.out w4 (HT.out _ HB4.out)
        clear HX2 HZ2 HEQ J8
        go_wp2_with fail
        refine K.mono ?_
        rintro e w5 ⟨rfl, hb5⟩
        obtain ⟨w6, hw6, hb6, l0, l1, l2, l3, l4, l5⟩ := box6b w5 ⟨n2, s1, s2, s3, s4, m2⟩
        have hb56 := below_tr hb5 hb6
        have HB6 : Hid (Below W.heap.size W w6) := below_tr HB4.out hb56
        have p0 := keep_cell hb56 p0
        have p1 := keep_cell hb56 p1
        have p2 := keep_cell hb56 p2
        have p3 := keep_cell hb56 p3
        have p4 := keep_cell hb56 p4
        have p5 := keep_cell hb56 p5
        have KA := awake10 w6 (HT.out _ HB6.out)
        simp only at hw6 l0 l1 l2 l3 l4 l5
        clear K hb5 hb6 hb56
        go_wp2_with fail
        refine KA.mono ?_
        rintro e w7 ⟨rfl, hb7⟩
        have HBE : Hid (Below w.heap.size w w7) := below_tr HB.out (below_tr HB6.out hb7)
        clear KA hb7
        go_wp2
        go_ret
        exact ⟨rfl, HBE.out⟩
  exact key iw rfl
end Go.Proofs.YtidehnfgiiobcaaDoor
