/- What is proved here: the document's Decode and Form are the program's. -/
import Derived.Test.YtglkkeelocdanaaGreatDoorPy
import Derived.Test.YtglkkeelocdanaaGreatDoorAw
namespace Go.Proofs.YtglkkeelocdanaaGreatDoor
open Go.RowKit
set_option linter.unusedVariables false
set_option linter.unusedSimpArgs false
set_option maxRecDepth 100000
def namesA : Array Value := (rowsL.map (fun r => Value.string r.name)).toArray
set_option maxHeartbeats 2000000 in
theorem names21 (w : World) : Calls Tryz.prog 72 #[] w fun e w' => e = .returned (.slice (some ⟨w.heap.size, 0, none⟩) 83 83) ∧ w' = w.alloc (.cells namesA 9) := by
  refine calls_of_wp Tryz.func72 rfl ?_
  refine wp_seq (wp_run (a' := { tmps := #[.slice none 0 0] ++ Array.replicate 1 undef, defers := [] }) (w' := w) (by kernel_rfl) ?_)
  show Code.wp _ _ _ _ _
  refine wp_seq (wp_run (a' := { tmps := #[.slice (some ⟨w.heap.size, 0, none⟩) 83 83, .slice (some ⟨w.heap.size, 0, none⟩) 83 83], defers := [] }) (w' := w.alloc (.cells namesA 9)) (by kernel_rfl) ?_)
  refine wp_ret (bodyPost_ret (v := .slice (some ⟨w.heap.size, 0, none⟩) 83 83) (by kernel_rfl) rfl ⟨rfl, rfl⟩)
/-- The names lie in block b. -/
def NamesAt (w : World) (b : Nat) : Prop := ∀ i (h : i < rowsL.length), w.cell? ⟨b, i, none⟩ = some (.string rowsL[i].name)
theorem NamesAt.keep {w w' : World} {b : Nat} (h : NamesAt w b) (hb : Below w.heap.size w w') : NamesAt w' b := fun i hi => keep_cell hb (h i hi)
theorem namesAt_new (w : World) : NamesAt (w.alloc (.cells namesA 9)) w.heap.size := fun i hi => by
  refine cell_newA w _ _ _ _ _ rfl ?_
  rw [namesA, List.getElem?_toArray, List.getElem?_map, List.getElem?_eq_getElem hi]; rfl
theorem form14 (n : ByteArray) (w : World) : Calls Tryz.prog 19 #[.string n] w fun e w' => e = .returned (.string (selA n).form) ∧ Below w.heap.size w w' := by
  have K22 := special22 n w
  generalize selA n = R at K22 ⊢
  obtain ⟨op, sub, sa, form⟩ := R
  simp only [Dr.val] at K22 ⊢
  have hfl := fld55
  go_enter Tryz.func19, Tryz.ntmps19
  go_wp2_with fail
  refine K22.mono ?_
  rintro e w3 ⟨rfl, hb3⟩
  have HB : Hid (Below w.heap.size w w3) := hb3
  clear hb3 K22
  go_wp2
  go_ret
  exact ⟨rfl, HB.out⟩
def combL : List ((Bool × Bool × Bool × Bool) × Nat) := [((true, true, true, false), 0), ((false, true, true, true), 0), ((true, false, true, false), 0), ((false, true, true, false), 0), ((false, false, true, false), 0), ((true, false, false, false), 0), ((true, true, false, false), 0), ((false, false, false, false), 20), ((true, false, false, false), 16), ((true, true, false, false), 16), ((false, false, false, false), 26), ((false, true, false, false), 16), ((true, true, true, true), 0)]
def combB (g : Bool × Bool × Bool × Bool) (wd : Nat) : Bool := combL.any (fun y => y.1 == g && y.2 == wd)
theorem comb_of {g : Bool × Bool × Bool × Bool} {wd : Nat} (h : combB g wd = true) : Comb g wd := by
  unfold combB combL at h
  simp only [List.any_cons, List.any_nil, Bool.or_eq_true, Bool.and_eq_true, beq_iff_eq, Bool.or_false] at h
  unfold Comb
  rcases h with ⟨h1, h2⟩ | ⟨h1, h2⟩ | ⟨h1, h2⟩ | ⟨h1, h2⟩ | ⟨h1, h2⟩ | ⟨h1, h2⟩ | ⟨h1, h2⟩ | ⟨h1, h2⟩ | ⟨h1, h2⟩ | ⟨h1, h2⟩ | ⟨h1, h2⟩ | ⟨h1, h2⟩ | ⟨h1, h2⟩
  · exact .inl ⟨h1.symm, h2.symm⟩
  · exact .inr (.inl ⟨h1.symm, h2.symm⟩)
  · exact .inr (.inr (.inl ⟨h1.symm, h2.symm⟩))
  · exact .inr (.inr (.inr (.inl ⟨h1.symm, h2.symm⟩)))
  · exact .inr (.inr (.inr (.inr (.inl ⟨h1.symm, h2.symm⟩))))
  · exact .inr (.inr (.inr (.inr (.inr (.inl ⟨h1.symm, h2.symm⟩)))))
  · exact .inr (.inr (.inr (.inr (.inr (.inr (.inl ⟨h1.symm, h2.symm⟩))))))
  · exact .inr (.inr (.inr (.inr (.inr (.inr (.inr (.inl ⟨h1.symm, h2.symm⟩)))))))
  · exact .inr (.inr (.inr (.inr (.inr (.inr (.inr (.inr (.inl ⟨h1.symm, h2.symm⟩))))))))
  · exact .inr (.inr (.inr (.inr (.inr (.inr (.inr (.inr (.inr (.inl ⟨h1.symm, h2.symm⟩)))))))))
  · exact .inr (.inr (.inr (.inr (.inr (.inr (.inr (.inr (.inr (.inr (.inl ⟨h1.symm, h2.symm⟩))))))))))
  · exact .inr (.inr (.inr (.inr (.inr (.inr (.inr (.inr (.inr (.inr (.inr (.inl ⟨h1.symm, h2.symm⟩)))))))))))
  · exact .inr (.inr (.inr (.inr (.inr (.inr (.inr (.inr (.inr (.inr (.inr (.inr (⟨h1.symm, h2.symm⟩))))))))))))
theorem combs : rowsL.all (fun r => combB (regsD (selA r.name).form) (wideN (selA r.name).form)) = true := by decide +kernel
theorem word_none {x : Nat} (h : ∀ j (hj : j < rowsL.length), matchB x rowsL[j] = false) : isWord x = false := by
  have : rowsL.find? (matchB x) = none := List.find?_eq_none.2 (fun r hr => by obtain ⟨i, hi, rfl⟩ := List.getElem_of_mem hr; rw [h i hi]; decide)
  rw [isWord, isFound, this]; rfl
theorem word_some {x k : Nat} (hk : k < rowsL.length) (h : matchB x rowsL[k] = true) : isWord x = true ∧ decN x = insN rowsL[k].shape x := by
  have hf := found_match hk h
  have hW : isWord x = true := by rw [isWord, isFound, hf]; rfl
  exact ⟨hW, by rw [decN, if_pos hW, rowOf, foundR, hf]; rfl⟩
theorem ins_lt (s : Sh) (x : Nat) (hx : x < 4294967296) : (insN s x).imm < 4294967296 := insN_imm s x hx
set_option maxHeartbeats 2000000 in
theorem decodeD9 (x : Nat) (hx : x < 4294967296) (w : World) : Calls Tryz.prog 38 #[.int .u32 (x : Int)] w fun e w' => e = .returned (.tuple #[(decN x).val, .bool (isWord x)]) ∧ Below w.heap.size w w' := by
  obtain ⟨W, hW, hb, hF⟩ := new6x w
  have K21 := names21 W
  have hnn := namesAt_new W
  have hbn : Below W.heap.size W (W.alloc (.cells namesA 9)) := (Below.refl _ _).alloc (Nat.le_refl _) _
  obtain ⟨W2, hW2⟩ : ∃ z, W.alloc (.cells namesA 9) = z := ⟨_, rfl⟩
  rw [hW2] at K21 hnn hbn
  obtain ⟨bn, hbn'⟩ : ∃ z, z = W.heap.size := ⟨_, rfl⟩
  rw [← hbn'] at hnn
  have K21 : Calls Tryz.prog 72 #[] W fun e w' => e = .returned (.slice (some ⟨bn, 0, none⟩) 83 83) ∧ w' = W2 := by rw [hbn']; exact K21
  have HN : Hid (NamesAt W2 bn) := hnn
  have HF2 : Hid (F6x W2 w.heap.size) := hF.keep hbn
  have HB2 : Hid (Below w.heap.size w W2) := below_tr hb hbn
  have HX : Hid (x < 4294967296) := hx
  have hl := rows_len
  have HL : Hid (rowsL.length = 83) := hl
  have HR : Hid (∀ k (hk : k < rowsL.length), matchB x rowsL[k] = true → isWord x = true ∧ decN x = insN rowsL[k].shape x) := fun k hk h => word_some hk h
  have HZ : Hid ((∀ j (hj : j < rowsL.length), matchB x rowsL[j] = false) → isWord x = false ∧ decN x = ⟨⟨#[]⟩, 0, 0, 0, 0, 0⟩) := fun h => ⟨word_none h, by rw [decN, word_none h]; rfl⟩
  generalize isWord x = iw at HR HZ ⊢
  generalize decN x = D at HR HZ ⊢
  clear hl hnn hbn hb hF hx hbn' hW2
  have hfl := fld55o
  go_enter Tryz.func38, Tryz.ntmps38
  go_wp2_with fail
  refine K21.mono ?_
  rintro e w1 ⟨rfl, hw1⟩
  subst hw1
  clear K21
  go_wp2
  go_loopw [5] (fun i wr => ∃ k : Nat, k ≤ 83 ∧ i = .int .i64 (k : Int) ∧ Below w1.heap.size w1 wr ∧ ∀ j (hj : j < rowsL.length), j < k → matchB x rowsL[j] = false) (fun i _ => 83 - (intOf i).toNat)
  case atStart => exact ⟨0, by decide, rfl, Below.refl _ _, fun j _ h => absurd h (Nat.not_lt_zero _)⟩
  case round =>
    obtain ⟨k, hk, rfl, hbr, hpre⟩ := hrel
    have HB : Hid (Below w1.heap.size w1 wr) := hbr
    have HP : Hid (∀ j (hj : j < rowsL.length), j < k → matchB x rowsL[j] = false) := hpre
    have hk64 : wrap64 ((k : Int) + 1) = (k : Int) + 1 := by unfold wrap64; omega
    clear hpre
    by_cases hkl : k < 83
    · have hk' : k < rowsL.length := by rw [HL.out]; exact hkl
      have q0 := (HN.out.keep hbr) k hk'
      have hkI : (k : Int) < 83 := by omega
      have K22 := special22 rowsL[k].name wr
      have hPop : (selA rowsL[k].name).op = rowsL[k].op := (row_pair hk').op
      have hok := selA_ok rowsL[k].name
      have hme := match_eq hk' x
      have hge := guess_eq hk' x
      have hcb : Comb (regsD (selA rowsL[k].name).form) (wideN (selA rowsL[k].name).form) := comb_of (List.all_eq_true.1 combs rowsL[k] (List.getElem_mem hk'))
      have K23 : Hid (∀ w', Calls Tryz.prog 73 #[.string rowsL[k].name, .int .u32 (x : Int)] w' fun e w'' => e = .returned (insN rowsL[k].shape x).val ∧ Below w'.heap.size w' w'') := fun w' => by
        rw [← hge]
        exact guess23 rowsL[k].name x HX.out (selA rowsL[k].name) rfl hok.2.2 _ rfl _ rfl hcb w'
      have hil := ins_lt rowsL[k].shape x HX.out
      have hee := enc_eq (insN rowsL[k].shape x)
      have K12 : Hid (∀ w', Calls Tryz.prog 15 #[(insN rowsL[k].shape x).val] w' fun e w'' => e = .returned (.tuple #[.int .u32 (encN (insN rowsL[k].shape x) : Int), .bool (isIns (insN rowsL[k].shape x))]) ∧ Below w'.heap.size w' w'') := fun w' => by
        have hok2 := selA_ok (insN rowsL[k].shape x).name
        have h := encodeD12 (insN rowsL[k].shape x) hil _ rfl hok2.1 hok2.2.1 hok2.2.2 w'
        rw [← hee.2, ← hee.1]
        exact h
      have HRk : Hid (matchB x rowsL[k] = true → iw = true ∧ D = insN rowsL[k].shape x) := HR.out k hk'
      have HNk : Hid (matchB x rowsL[k] = false → ∀ j (hj : j < rowsL.length), j < k + 1 → matchB x rowsL[j] = false) := fun h j hj hjk => by
        by_cases e : j = k
        · subst e; exact h
        · exact HP.out j hj (by omega)
      rw [hme] at HRk HNk
      rw [← hPop] at HRk HNk
      clear hme hge hcb hil hee hok hPop
      generalize insN rowsL[k].shape x = I at K23 K12 HRk HNk
      generalize encN I = EN at K12 HRk HNk
      generalize isIns I = ib at K12 HRk HNk
      generalize selA rowsL[k].name = R at K22 HRk HNk
      generalize rowsL[k].name = nm at q0 K22 K23
      clear hk'
      obtain ⟨op, sub, sa, form⟩ := R
      simp only [Dr.val] at K22 HRk HNk
      go_wp2_with fail
      refine K22.mono ?_
      rintro e w2 ⟨rfl, hb2⟩
      have q0 := keep_cell hb2 q0
      have HB2' : Hid (Below w1.heap.size w1 w2) := below_tr HB.out hb2
      clear K22 hb2 hbr
      by_cases ho : op = x / 67108864
      · have ho' : ((op : Int) != (x : Int) / 67108864) = false := by simp; omega
        have hoB : (op == x / 67108864) = true := by simpa using ho
        rw [hoB, Bool.true_and] at HRk HNk
        have KG := K23.out w2
        clear ho hoB K23
        obtain ⟨n1, r1, r2, r3, r4, m1⟩ := I
        simp only [In.val] at KG K12
        go_wp2_with fail
        refine KG.mono ?_
        rintro e w3 ⟨rfl, hb3⟩
        obtain ⟨w4, hw4, hb4, c0, c1, c2, c3, c4, c5, F5⟩ := new6v w3 (.string n1) (.int .i64 r1) (.int .i64 r2) (.int .i64 r3) (.int .i64 r4) (.int .u32 (m1 : Int))
        have KE := K12.out w4
        have HB4 : Hid (Below w1.heap.size w1 w4) := below_tr HB2'.out (below_tr hb3 hb4)
        clear KG hb3 hb4 K12 q0 F5
        go_wp2_with fail
        refine KE.mono ?_
        rintro e w5 ⟨rfl, hb5⟩
        have c0 := keep_cell hb5 c0
        have c1 := keep_cell hb5 c1
        have c2 := keep_cell hb5 c2
        have c3 := keep_cell hb5 c3
        have c4 := keep_cell hb5 c4
        have c5 := keep_cell hb5 c5
        have HB5 : Hid (Below w1.heap.size w1 w5) := below_tr HB4.out hb5
        clear KE hb5
        cases ib with
        | false =>
          have HNN : Hid _ := HNk.out rfl
          clear HNk HRk
          go_wp2
          go_roundw
          case rel => exact ⟨k + 1, by omega, by go_num, HB5.out, HNN.out⟩
          case measure => simp [intOf]; omega
        | true =>
          cases he : (EN == x) with
          | false =>
            have he' : ((EN : Int) == (x : Int)) = false := by simp at he ⊢; omega
            have HNN : Hid _ := HNk.out (by rw [he]; rfl)
            clear HNk HRk he
            go_wp2
            go_roundw
            case rel => exact ⟨k + 1, by omega, by go_num, HB5.out, HNN.out⟩
            case measure => simp [intOf]; omega
          | true =>
            have he' : ((EN : Int) == (x : Int)) = true := by simp at he ⊢; omega
            obtain ⟨hiw, hD⟩ := HRk.out (by rw [he]; rfl)
            have HDD : Hid (D.val = .agg #[.string n1, .int .i64 r1, .int .i64 r2, .int .i64 r3, .int .i64 r4, .int .u32 (m1 : Int)] ∧ iw = true) := ⟨by rw [hD]; rfl, hiw⟩
            have F := HF2.out.keep HB5.out
            have t0 := F.1.cell
            have t1 := F.2.1.cell
            have t2 := F.2.2.1.cell
            have t3 := F.2.2.2.1.cell
            have t4 := F.2.2.2.2.1.cell
            have t5 := F.2.2.2.2.2.cell
            have u0 := F.1.frozen
            have u1 := F.2.1.frozen
            have u2 := F.2.2.1.frozen
            have u3 := F.2.2.2.1.frozen
            have u4 := F.2.2.2.2.1.frozen
            have u5 := F.2.2.2.2.2.frozen
            have hres := res6 w5 w.heap.size (.string n1) (.int .i64 r1) (.int .i64 r2) (.int .i64 r3) (.int .i64 r4) (.int .u32 (m1 : Int)) F
            simp only at hres
            have HBE := below6 (n := w.heap.size) (below_tr HB2.out HB5.out) (Nat.le_refl _) (.string n1) (.int .i64 r1) (.int .i64 r2) (.int .i64 r3) (.int .i64 r4) (.int .u32 (m1 : Int))
            obtain ⟨W9, hW9⟩ : ∃ z, (((((w5.setCell ⟨w.heap.size, 0, none⟩ (.string n1)).setCell ⟨w.heap.size, 1, none⟩ (.int .i64 r1)).setCell ⟨w.heap.size, 2, none⟩ (.int .i64 r2)).setCell ⟨w.heap.size, 3, none⟩ (.int .i64 r3)).setCell ⟨w.heap.size, 4, none⟩ (.int .i64 r4)).setCell ⟨w.heap.size, 5, none⟩ (.int .u32 (m1 : Int)) = z := ⟨_, rfl⟩
            rw [hW9] at hres HBE
            have HBE : Hid _ := HBE
            obtain ⟨g0, g1, g2, g3, g4, g5⟩ := hres
            clear F hiw hD HRk HNk he
            go_wp2
            refine bodyPost_ret (v := .tuple #[.agg #[.string n1, .int .i64 r1, .int .i64 r2, .int .i64 r3, .int .i64 r4, .int .u32 (m1 : Int)], .bool true]) ?_ rfl ⟨by rw [HDD.out.1, HDD.out.2], HBE.out⟩
            rw [results_cell_tmp rfl]; simp [go_sem, g0, g1, g2, g3, g4, g5]
      · have ho' : ((op : Int) != (x : Int) / 67108864) = true := by simp; omega
        have hoB : (op == x / 67108864) = false := by simpa using ho
        have HNN : Hid _ := HNk.out (by rw [hoB]; rfl)
        clear ho hoB HRk HNk K23 K12 q0
        go_wp2
        go_roundw
        case rel => exact ⟨k + 1, by omega, by go_num, HB2'.out, HNN.out⟩
        case measure => simp [intOf]; omega
    · have he : k = 83 := by omega
      subst he
      obtain ⟨hiw, hD⟩ := HZ.out (fun j hj => HP.out j hj (by rw [HL.out] at hj; exact hj))
      have HDD : Hid (D.val = .agg #[.string ⟨#[]⟩, .int .i64 0, .int .i64 0, .int .i64 0, .int .i64 0, .int .u32 0] ∧ iw = false) := ⟨by rw [hD]; rfl, hiw⟩
      have F := HF2.out.keep hbr
      have t0 := F.1.cell
      have t1 := F.2.1.cell
      have t2 := F.2.2.1.cell
      have t3 := F.2.2.2.1.cell
      have t4 := F.2.2.2.2.1.cell
      have t5 := F.2.2.2.2.2.cell
      have u0 := F.1.frozen
      have u1 := F.2.1.frozen
      have u2 := F.2.2.1.frozen
      have u3 := F.2.2.2.1.frozen
      have u4 := F.2.2.2.2.1.frozen
      have u5 := F.2.2.2.2.2.frozen
      have hres := res6 wr w.heap.size (.string ⟨#[]⟩) (.int .i64 0) (.int .i64 0) (.int .i64 0) (.int .i64 0) (.int .u32 0) F
      simp only at hres
      have HBE := below6 (n := w.heap.size) (below_tr HB2.out hbr) (Nat.le_refl _) (.string ⟨#[]⟩) (.int .i64 0) (.int .i64 0) (.int .i64 0) (.int .i64 0) (.int .u32 0)
      obtain ⟨W9, hW9⟩ : ∃ z, (((((wr.setCell ⟨w.heap.size, 0, none⟩ (.string ⟨#[]⟩)).setCell ⟨w.heap.size, 1, none⟩ (.int .i64 0)).setCell ⟨w.heap.size, 2, none⟩ (.int .i64 0)).setCell ⟨w.heap.size, 3, none⟩ (.int .i64 0)).setCell ⟨w.heap.size, 4, none⟩ (.int .i64 0)).setCell ⟨w.heap.size, 5, none⟩ (.int .u32 0) = z := ⟨_, rfl⟩
      rw [hW9] at hres HBE
      have HBE : Hid _ := HBE
      obtain ⟨g0, g1, g2, g3, g4, g5⟩ := hres
      clear F hiw hD hbr
      go_wp2
      refine bodyPost_ret (v := .tuple #[.agg #[.string ⟨#[]⟩, .int .i64 0, .int .i64 0, .int .i64 0, .int .i64 0, .int .u32 0], .bool false]) ?_ rfl ⟨by rw [HDD.out.1, HDD.out.2], HBE.out⟩
      rw [results_cell_tmp rfl]; simp [go_sem, g0, g1, g2, g3, g4, g5]
end Go.Proofs.YtglkkeelocdanaaGreatDoor
