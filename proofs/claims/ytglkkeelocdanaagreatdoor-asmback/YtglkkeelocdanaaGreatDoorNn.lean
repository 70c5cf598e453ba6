/- What is proved here: an instruction as text: the document's Line. -/
import Derived.Test.YtglkkeelocdanaaGreatDoorNm
import Derived.Test.YtglkkeelocdanaaGreatDoorDn
namespace Go.Proofs.YtglkkeelocdanaaGreatDoor
open Go.RowKit
set_option linter.unusedVariables false
set_option linter.unusedSimpArgs false
set_option maxRecDepth 100000
theorem rows_forms : rowsL.all (fun r => decide (r.form.toList ∈ [[100, 115, 116], [100, 116, 97], [100, 116, 114], [100, 116, 115], [100, 116, 118], [100, 115], [100, 115, 100], [100, 116], [116, 100], [100], [115], [115, 116], [99], [106], [115, 111], [115, 116, 111], [116, 115, 105], [116, 105], [116, 109], [116, 115, 120]])) = true := by decide +kernel
def nameOkB (r : Rw) : Bool :=
  let n := r.name.toList; let f := r.form.toList
  let a := n == [97, 110, 100, 105] || (n == [111, 114, 105] || n == [120, 111, 114, 105])
  let u := n == [108, 117, 105]
  (f == [116, 115, 105] || !a) && ((f == [116, 105] || !u) && (!(f == [116, 105]) || u))
theorem rows_names : rowsL.all nameOkB = true := by decide +kernel
theorem imm_u (i : In) (h : (i.name.toList == [97, 110, 100, 105] || (i.name.toList == [111, 114, 105] || i.name.toList == [120, 111, 114, 105])) = true ∨ (i.name.toList == [108, 117, 105]) = true) : immL i = Lib.itoa (i.imm : Int) := by
  unfold immL
  rw [if_pos]
  revert h
  cases (i.name.toList == [97, 110, 100, 105]) <;> cases (i.name.toList == [111, 114, 105]) <;> cases (i.name.toList == [120, 111, 114, 105]) <;> cases (i.name.toList == [108, 117, 105]) <;> simp
theorem imm_s (i : In) (hm : i.imm < 65536) (h1 : (i.name.toList == [97, 110, 100, 105] || (i.name.toList == [111, 114, 105] || i.name.toList == [120, 111, 114, 105])) = false) (h2 : (i.name.toList == [108, 117, 105]) = false) : immL i = Lib.itoa (sgn i.imm) := by
  unfold immL
  rw [if_neg]
  · unfold sgn
    rw [Nat.mod_eq_of_lt hm]
    split
    · rfl
    · rfl
  · revert h1 h2
    cases (i.name.toList == [97, 110, 100, 105]) <;> cases (i.name.toList == [111, 114, 105]) <;> cases (i.name.toList == [120, 111, 114, 105]) <;> cases (i.name.toList == [108, 117, 105]) <;> simp
def wideL (f : L8) : Nat := if f == [99] then 20 else if f == [106] then 26 else if f == [115, 111] then 16 else if f == [115, 116, 111] then 16 else if f == [116, 115, 105] then 16 else if f == [116, 105] then 16 else if f == [116, 109] then 16 else 0
/-- What stands behind a name is what the document writes behind it. -/
theorem tail_beh {i : In} (h : isIns i = true) : tailL i = if behL i (formL8 i.name) = [] then [] else 32 :: behL i (formL8 i.name) := by
  obtain ⟨a, ha, p⟩ := in_p h
  have hf := of_decide_eq_true (List.all_eq_true.1 rows_forms _ (List.getElem_mem ha))
  have hn := List.all_eq_true.1 rows_names _ (List.getElem_mem ha)
  have hm := p.fm
  have hfm := p.form
  have hnm : i.name.toList = rowsL[a].name.toList := by rw [p.name]
  unfold nameOkB at hn
  simp only at hn
  rw [← hnm, ← hfm] at hn
  rw [← hfm] at hf
  have hw : wideN rowsL[a].form = wideL (formL8 i.name) := by rw [hfm]; rfl
  rw [hw] at hm
  unfold tailL
  generalize formL8 i.name = f at hf hn hm ⊢
  clear p hfm hnm hw h
  have hu := imm_u i
  have hs := imm_s i
  cases c1 : (i.name.toList == [97, 110, 100, 105] || (i.name.toList == [111, 114, 105] || i.name.toList == [120, 111, 114, 105])) with
  | true =>
    rw [c1] at hn hu
    have e : f = [116, 115, 105] := by
      revert hn
      cases c2 : (f == [116, 115, 105]) with
      | true => intro _; simpa using c2
      | false => simp
    subst e
    have e1 := hu (.inl rfl)
    have e2 : patL i.name.toList [116, 115, 105] (i.imm == 0) = [32, 36, 116, 44, 32, 36, 115, 44, 32, 117] := by unfold patL; rw [if_pos c1]
    rw [e2]
    have e3 : partsL [32, 36, 116, 44, 32, 36, 115, 44, 32, 117] = [[32, 36], [116], [44, 32, 36], [115], [44, 32], [117]] := by decide
    rw [e3]
    simp [behL, toldL, e1]
  | false =>
    rw [c1] at hn hu hs
    simp only [List.mem_cons, List.not_mem_nil, or_false] at hf
    rcases hf with rfl | rfl | rfl | rfl | rfl | rfl | rfl | rfl | rfl | rfl | rfl | rfl | rfl | rfl | rfl | rfl | rfl | rfl | rfl | rfl
    · have e2 : patL i.name.toList [100, 115, 116] (i.imm == 0) = [32, 36, 100, 44, 32, 36, 115, 44, 32, 36, 116] := by unfold patL; rw [c1]; rfl
      rw [e2]
      have e3 : partsL [32, 36, 100, 44, 32, 36, 115, 44, 32, 36, 116] = [[32, 36], [100], [44, 32, 36], [115], [44, 32, 36], [116]] := by decide
      rw [e3]
      simp [behL, toldL, itoa_ne]
    · have e2 : patL i.name.toList [100, 116, 97] (i.imm == 0) = [32, 36, 100, 44, 32, 36, 116, 44, 32, 97] := by unfold patL; rw [c1]; rfl
      rw [e2]
      have e3 : partsL [32, 36, 100, 44, 32, 36, 116, 44, 32, 97] = [[32, 36], [100], [44, 32, 36], [116], [44, 32], [97]] := by decide
      rw [e3]
      simp [behL, toldL, itoa_ne]
    · have e2 : patL i.name.toList [100, 116, 114] (i.imm == 0) = [32, 36, 100, 44, 32, 36, 116, 44, 32, 97] := by unfold patL; rw [c1]; rfl
      rw [e2]
      have e3 : partsL [32, 36, 100, 44, 32, 36, 116, 44, 32, 97] = [[32, 36], [100], [44, 32, 36], [116], [44, 32], [97]] := by decide
      rw [e3]
      simp [behL, toldL, itoa_ne]
    · have e2 : patL i.name.toList [100, 116, 115] (i.imm == 0) = [32, 36, 100, 44, 32, 36, 116, 44, 32, 36, 115] := by unfold patL; rw [c1]; rfl
      rw [e2]
      have e3 : partsL [32, 36, 100, 44, 32, 36, 116, 44, 32, 36, 115] = [[32, 36], [100], [44, 32, 36], [116], [44, 32, 36], [115]] := by decide
      rw [e3]
      simp [behL, toldL, itoa_ne]
    · have e2 : patL i.name.toList [100, 116, 118] (i.imm == 0) = [32, 36, 100, 44, 32, 36, 116, 44, 32, 36, 115] := by unfold patL; rw [c1]; rfl
      rw [e2]
      have e3 : partsL [32, 36, 100, 44, 32, 36, 116, 44, 32, 36, 115] = [[32, 36], [100], [44, 32, 36], [116], [44, 32, 36], [115]] := by decide
      rw [e3]
      simp [behL, toldL, itoa_ne]
    · have e2 : patL i.name.toList [100, 115] (i.imm == 0) = [32, 36, 100, 44, 32, 36, 115] := by unfold patL; rw [c1]; rfl
      rw [e2]
      have e3 : partsL [32, 36, 100, 44, 32, 36, 115] = [[32, 36], [100], [44, 32, 36], [115]] := by decide
      rw [e3]
      simp [behL, toldL, itoa_ne]
    · have e2 : patL i.name.toList [100, 115, 100] (i.imm == 0) = [32, 36, 100, 44, 32, 36, 115] := by unfold patL; rw [c1]; rfl
      rw [e2]
      have e3 : partsL [32, 36, 100, 44, 32, 36, 115] = [[32, 36], [100], [44, 32, 36], [115]] := by decide
      rw [e3]
      simp [behL, toldL, itoa_ne]
    · have e2 : patL i.name.toList [100, 116] (i.imm == 0) = [32, 36, 100, 44, 32, 36, 116] := by unfold patL; rw [c1]; rfl
      rw [e2]
      have e3 : partsL [32, 36, 100, 44, 32, 36, 116] = [[32, 36], [100], [44, 32, 36], [116]] := by decide
      rw [e3]
      simp [behL, toldL, itoa_ne]
    · have e2 : patL i.name.toList [116, 100] (i.imm == 0) = [32, 36, 116, 44, 32, 36, 100] := by unfold patL; rw [c1]; rfl
      rw [e2]
      have e3 : partsL [32, 36, 116, 44, 32, 36, 100] = [[32, 36], [116], [44, 32, 36], [100]] := by decide
      rw [e3]
      simp [behL, toldL, itoa_ne]
    · have e2 : patL i.name.toList [100] (i.imm == 0) = [32, 36, 100] := by unfold patL; rw [c1]; rfl
      rw [e2]
      have e3 : partsL [32, 36, 100] = [[32, 36], [100]] := by decide
      rw [e3]
      simp [behL, toldL, itoa_ne]
    · have e2 : patL i.name.toList [115] (i.imm == 0) = [32, 36, 115] := by unfold patL; rw [c1]; rfl
      rw [e2]
      have e3 : partsL [32, 36, 115] = [[32, 36], [115]] := by decide
      rw [e3]
      simp [behL, toldL, itoa_ne]
    · have e2 : patL i.name.toList [115, 116] (i.imm == 0) = [32, 36, 115, 44, 32, 36, 116] := by unfold patL; rw [c1]; rfl
      rw [e2]
      have e3 : partsL [32, 36, 115, 44, 32, 36, 116] = [[32, 36], [115], [44, 32, 36], [116]] := by decide
      rw [e3]
      simp [behL, toldL, itoa_ne]
    · by_cases h0 : i.imm = 0
      · have e2 : patL i.name.toList [99] (i.imm == 0) = [] := by rw [h0]; unfold patL; rw [c1]; rfl
        rw [e2]
        simp [behL, partsL, ptR, h0]
      · have e2 : patL i.name.toList [99] (i.imm == 0) = [32, 117] := by rw [show (i.imm == 0) = false from by simpa using h0]; unfold patL; rw [c1]; rfl
        rw [e2]
        have e3 : partsL [32, 117] = [[32], [117]] := by decide
        rw [e3]
        simp [behL, toldL, h0, itoa_ne]
    · have e2 : patL i.name.toList [106] (i.imm == 0) = [32, 117] := by unfold patL; rw [c1]; rfl
      rw [e2]
      have e3 : partsL [32, 117] = [[32], [117]] := by decide
      rw [e3]
      simp [behL, toldL, itoa_ne]
    · have e2 : patL i.name.toList [115, 111] (i.imm == 0) = [32, 36, 115, 44, 32, 105] := by unfold patL; rw [c1]; rfl
      rw [e2]
      have e3 : partsL [32, 36, 115, 44, 32, 105] = [[32, 36], [115], [44, 32], [105]] := by decide
      rw [e3]
      have c2 : (i.name.toList == [108, 117, 105]) = false := by revert hn; cases (i.name.toList == [108, 117, 105]) <;> simp
      have hm6 : i.imm < 65536 := by rw [show wideL [115, 111] = 16 from by decide] at hm; omega
      have e1 := hs hm6 rfl c2
      simp [behL, toldL, e1]
    · have e2 : patL i.name.toList [115, 116, 111] (i.imm == 0) = [32, 36, 115, 44, 32, 36, 116, 44, 32, 105] := by unfold patL; rw [c1]; rfl
      rw [e2]
      have e3 : partsL [32, 36, 115, 44, 32, 36, 116, 44, 32, 105] = [[32, 36], [115], [44, 32, 36], [116], [44, 32], [105]] := by decide
      rw [e3]
      have c2 : (i.name.toList == [108, 117, 105]) = false := by revert hn; cases (i.name.toList == [108, 117, 105]) <;> simp
      have hm6 : i.imm < 65536 := by rw [show wideL [115, 116, 111] = 16 from by decide] at hm; omega
      have e1 := hs hm6 rfl c2
      simp [behL, toldL, e1]
    · have e2 : patL i.name.toList [116, 115, 105] (i.imm == 0) = [32, 36, 116, 44, 32, 36, 115, 44, 32, 105] := by unfold patL; rw [c1]; rfl
      rw [e2]
      have e3 : partsL [32, 36, 116, 44, 32, 36, 115, 44, 32, 105] = [[32, 36], [116], [44, 32, 36], [115], [44, 32], [105]] := by decide
      rw [e3]
      have c2 : (i.name.toList == [108, 117, 105]) = false := by revert hn; cases (i.name.toList == [108, 117, 105]) <;> simp
      have hm6 : i.imm < 65536 := by rw [show wideL [116, 115, 105] = 16 from by decide] at hm; omega
      have e1 := hs hm6 rfl c2
      simp [behL, toldL, e1]
    · have e2 : patL i.name.toList [116, 105] (i.imm == 0) = [32, 36, 116, 44, 32, 117] := by unfold patL; rw [c1]; rfl
      rw [e2]
      have e3 : partsL [32, 36, 116, 44, 32, 117] = [[32, 36], [116], [44, 32], [117]] := by decide
      rw [e3]
      have c2 : (i.name.toList == [108, 117, 105]) = true := by revert hn; cases (i.name.toList == [108, 117, 105]) <;> simp
      have e1 := hu (.inr c2)
      simp [behL, toldL, e1]
    · have e2 : patL i.name.toList [116, 109] (i.imm == 0) = [32, 36, 116, 44, 32, 105, 40, 36, 115, 41] := by unfold patL; rw [c1]; rfl
      rw [e2]
      have e3 : partsL [32, 36, 116, 44, 32, 105, 40, 36, 115, 41] = [[32, 36], [116], [44, 32], [105], [40, 36], [115], [41]] := by decide
      rw [e3]
      have c2 : (i.name.toList == [108, 117, 105]) = false := by revert hn; cases (i.name.toList == [108, 117, 105]) <;> simp
      have hm6 : i.imm < 65536 := by rw [show wideL [116, 109] = 16 from by decide] at hm; omega
      have e1 := hs hm6 rfl c2
      simp [behL, toldL, e1]
    · have e2 : patL i.name.toList [116, 115, 120] (i.imm == 0) = [32, 36, 116, 44, 32, 36, 115, 44, 32, 97, 44, 32, 100] := by unfold patL; rw [c1]; rfl
      rw [e2]
      have e3 : partsL [32, 36, 116, 44, 32, 36, 115, 44, 32, 97, 44, 32, 100] = [[32, 36], [116], [44, 32, 36], [115], [44, 32], [97], [44, 32], [100]] := by decide
      rw [e3]
      simp [behL, toldL, itoa_ne]
theorem behind25 (i : In) (h : isIns i = true) (w : World) : Calls Tryz.prog 25 #[i.val, .string (selA i.name).form] w fun e w' => e = .returned (.string ⟨(behL i (formL8 i.name)).toArray⟩) ∧ Below w.heap.size w w' := by
  obtain ⟨a, ha, p⟩ := in_p h
  have hbd := in_bd h
  have hf := of_decide_eq_true (List.all_eq_true.1 rows_forms _ (List.getElem_mem ha))
  rw [← p.form] at hf
  have hF : (selA i.name).form = ⟨(formL8 i.name).toArray⟩ := by rw [← form_eq, formL8, ba_list]
  rw [hF]
  generalize formL8 i.name = f at hf ⊢
  simp only [List.mem_cons, List.not_mem_nil, or_false] at hf
  rcases hf with rfl | rfl | rfl | rfl | rfl | rfl | rfl | rfl | rfl | rfl | rfl | rfl | rfl | rfl | rfl | rfl | rfl | rfl | rfl | rfl
  · exact beh_dst i hbd w
  · exact beh_dta i hbd w
  · exact beh_dtr i hbd w
  · exact beh_dts i hbd w
  · exact beh_dtv i hbd w
  · exact beh_ds i hbd w
  · exact beh_dsd i hbd w
  · exact beh_dt i hbd w
  · exact beh_td i hbd w
  · exact beh_d i hbd w
  · exact beh_s i hbd w
  · exact beh_st i hbd w
  · exact beh_c i hbd w
  · exact beh_j i hbd w
  · exact beh_so i hbd w
  · exact beh_sto i hbd w
  · exact beh_tsi i hbd w
  · exact beh_ti i hbd w
  · exact beh_tm i hbd w
  · exact beh_tsx i hbd w
theorem line_len {i : In} (h : isIns i = true) : (lineL i).length ≤ 1342177500 := by
  have e : lineL i = i.name.toList ++ tailL i := by unfold lineL; rw [h]; rfl
  rw [e]
  exact out_len h _ (pat_size _ _ _) _ [] (by rw [List.append_nil])
theorem dr_ok : ((rowsL.map (fun r => selA r.name)).all (fun r => decide (r.sub < 4294967296 ∧ r.sa < 4294967296 ∧ r.form.size < 9223372036854775807))) = true := by decide +kernel
theorem encD15 (i : In) (hi : i.imm < 4294967296) (w : World) : Calls Tryz.prog 15 #[i.val] w fun e w' => e = .returned (.tuple #[.int .u32 (encN i : Int), .bool (isIns i)]) ∧ Below w.heap.size w w' := by
  have hr : (selA i.name).sub < 4294967296 ∧ (selA i.name).sa < 4294967296 ∧ (selA i.name).form.size < 9223372036854775807 := by
    rcases name_cases i.name with ⟨a, ha, hn⟩ | h
    · have := List.all_eq_true.1 dr_ok (selA rowsL[a].name) (List.mem_map.2 ⟨_, List.getElem_mem ha, rfl⟩)
      rw [hn]
      exact of_decide_eq_true this
    · rw [selA_none h]; decide +kernel
  have K := encodeD12 i hi (selA i.name) rfl hr.1 hr.2.1 hr.2.2 w
  rw [← (enc_eq i).1, ← (enc_eq i).2]
  exact K
set_option maxHeartbeats 1000000 in
theorem rline10 (i : In) (hi : i.imm < 4294967296) (w : World) : Calls Tryz.prog 10 #[i.val] w fun e w' => e = .returned (.string ⟨(lineL i).toArray⟩) ∧ Below w.heap.size w w' := by
  obtain ⟨W, hW, hb, hz, d0, d1, d2, d3, d4, d5⟩ := box6 w (.string i.name) (.int .i64 i.rs) (.int .i64 i.rt) (.int .i64 i.rd) (.int .i64 i.sa) (.int .u32 (i.imm : Int)) 24
  have K15 := encD15 i hi W
  have HB : Hid (Below w.heap.size w W) := hb
  unfold In.val at K15 ⊢
  clear hb hz
  cases hins : isIns i with
  | false =>
    rw [hins] at K15
    have e0 : lineL i = [] := by unfold lineL; rw [hins]; rfl
    rw [e0]
    go_enter Tryz.func10, Tryz.ntmps10
    go_wp2_with fail
    refine K15.mono ?_
    rintro e w1 ⟨rfl, hb1⟩
    go_wp2
    go_ret
    exact ⟨rfl, below_tr HB.out hb1⟩
  | true =>
    rw [hins] at K15
    have hle : lineL i = i.name.toList ++ tailL i := by unfold lineL; rw [hins]; rfl
    have htb := tail_beh hins
    have hll := line_len hins
    obtain ⟨F, hF⟩ : ∃ z, z = (selA i.name).form := ⟨_, rfl⟩
    obtain ⟨X, hX⟩ : ∃ z : ByteArray, z = ⟨(behL i (formL8 i.name)).toArray⟩ := ⟨_, rfl⟩
    have K19 : Hid (∀ w', Calls Tryz.prog 19 #[.string i.name] w' fun e w'' => e = .returned (.string F) ∧ Below w'.heap.size w' w'') := fun w' => by rw [hF]; exact form14 i.name w'
    have K25 : Hid (∀ w', Calls Tryz.prog 25 #[.agg #[.string i.name, .int .i64 i.rs, .int .i64 i.rt, .int .i64 i.rd, .int .i64 i.sa, .int .u32 (i.imm : Int)], .string F] w' fun e w'' => e = .returned (.string X) ∧ Below w'.heap.size w' w'') := fun w' => by rw [hF, hX]; exact behind25 i hins w'
    obtain ⟨LN, hLN⟩ : ∃ z, z = lineL i := ⟨_, rfl⟩
    rw [← hLN] at hle hll ⊢
    clear hF
    go_enter Tryz.func10, Tryz.ntmps10
    go_wp2_with fail
    refine K15.mono ?_
    rintro e w1 ⟨rfl, hb1⟩
    have d0 := keep_cell hb1 d0
    have d1 := keep_cell hb1 d1
    have d2 := keep_cell hb1 d2
    have d3 := keep_cell hb1 d3
    have d4 := keep_cell hb1 d4
    have d5 := keep_cell hb1 d5
    have HB1 : Hid (Below w.heap.size w w1) := below_tr HB.out hb1
    clear K15 hb1
    have HLE : Hid (LN = i.name.toList ++ tailL i ∧ LN.length ≤ 1342177500) := ⟨hle, hll⟩
    clear hLN hle hll
    go_wp2
    refine wp_region_slots (R := Ext) [⟨13, fun v _ => v = .agg #[.string i.name, .int .i64 i.rs, .int .i64 i.rt, .int .i64 i.rd, .int .i64 i.sa, .int .u32 (i.imm : Int)], fun _ _ _ _ h => h⟩, ⟨14, fun v _ => v = .pointer (some ⟨w.heap.size, 0, none⟩), fun _ _ _ _ h => h⟩, ⟨15, fun v _ => v = .string i.name, fun _ _ _ _ h => h⟩, ⟨16, fun v _ => v = .string F, fun _ _ _ _ h => h⟩, ⟨17, fun v _ => v = .string X, fun _ _ _ _ h => h⟩, ⟨5, fun v _ => v = .string X, fun _ _ _ _ h => h⟩] _ (by kernel_rfl) rfl (by kernel_rfl) (Below.drew (Below.refl _ _)) (fun _ _ _ h1 h2 => below_tr h1 h2) (fun QQ => ⟨?_, ?_, ?_, ?_, ?_, ?_, trivial⟩) (fun f wy hR hf => ?_)
    · intro A wx hR hout hdep K hK
      have h1 : A.tmps[1]?.getD undef = .pointer (some ⟨w.heap.size, 0, none⟩) := hout 1 (by kernel_rfl)
      refine if_yes (by kernel_rfl) ?_
      have d0 := keep_cell hR d0
      have d1 := keep_cell hR d1
      have d2 := keep_cell hR d2
      have d3 := keep_cell hR d3
      have d4 := keep_cell hR d4
      have d5 := keep_cell hR d5
      simp [go_sem, h1, d0, d1, d2, d3, d4, d5]
      exact hK.out _ _ (Below.refl _ _) rfl
    · intro A wx hR hout hdep K hK
      have h1 : A.tmps[1]?.getD undef = .pointer (some ⟨w.heap.size, 0, none⟩) := hout 1 (by kernel_rfl)
      refine if_yes (by kernel_rfl) ?_
      simp [go_sem, h1]
      exact hK.out _ _ (Below.refl _ _) rfl
    · intro A wx hR hout hdep K hK
      have h14 : A.tmps[14]?.getD undef = .pointer (some ⟨w.heap.size, 0, none⟩) := hdep 14 (by kernel_rfl)
      refine if_yes (by kernel_rfl) ?_
      have d0 := keep_cell hR d0
      have d1 := keep_cell hR d1
      have d2 := keep_cell hR d2
      have d3 := keep_cell hR d3
      have d4 := keep_cell hR d4
      have d5 := keep_cell hR d5
      simp [go_sem, h14, d0, d1, d2, d3, d4, d5]
      exact hK.out _ _ (Below.refl _ _) rfl
    · intro A wx hR hout hdep K hK
      have h15 : A.tmps[15]?.getD undef = .string i.name := hdep 15 (by kernel_rfl)
      refine if_yes (by kernel_rfl) ?_
      simp [go_sem, h15]
      refine (K19.out wx).mono ?_
      rintro e wG ⟨rfl, hbG⟩
      exact hK.out _ _ hbG rfl
    · intro A wx hR hout hdep K hK
      have h13 : A.tmps[13]?.getD undef = .agg #[.string i.name, .int .i64 i.rs, .int .i64 i.rt, .int .i64 i.rd, .int .i64 i.sa, .int .u32 (i.imm : Int)] := hdep 13 (by kernel_rfl)
      have h16 : A.tmps[16]?.getD undef = .string F := hdep 16 (by kernel_rfl)
      refine if_yes (by kernel_rfl) ?_
      simp [go_sem, h13, h16]
      refine (K25.out wx).mono ?_
      rintro e wG ⟨rfl, hbG⟩
      exact hK.out _ _ hbG rfl
    · intro A wx hR hout hdep K hK
      have h17 : A.tmps[17]?.getD undef = .string X := hdep 17 (by kernel_rfl)
      refine if_yes (by kernel_rfl) ?_
      simp [go_sem, h17]
      exact hK.out _ _ (Below.refl _ _) rfl
    have hv : f 5 = .string X := hf 5 (by kernel_rfl)
    simp only [putSl, Act.put, List.setIfInBounds_toArray, List.set_cons_zero, List.set_cons_succ, hv]
    have HB2 : Hid (Below w.heap.size w wy) := below_tr HB1.out hR
    have d0 := keep_cell hR d0
    clear hf hv hR d1 d2 d3 d4 d5
    by_cases hbe : behL i (formL8 i.name) = []
    · have hx0 : (X.toList == []) = true := by rw [hX, bal, hbe]; rfl
      have HE : Hid (i.name = ⟨LN.toArray⟩) := by show _ = _; rw [HLE.out.1, htb, if_pos hbe, List.append_nil, ba_list]
      clear hbe hX htb
      go_wp2
      go_ret
      exact ⟨by rw [← HE.out]; rfl, HB2.out⟩
    · have hx0 : (X.toList == []) = false := by rw [hX, bal]; simpa using hbe
      have hsz : i.name.size + 1 + X.size = LN.length := by
        rw [HLE.out.1, htb, if_neg hbe, hX]
        show _ + _ + Array.size _ = _
        rw [List.length_append, bt_len]
        simp
        omega
      have hll := HLE.out.2
      obtain ⟨Y, hY⟩ : ∃ z : ByteArray, z = i.name ++ ⟨#[32]⟩ := ⟨_, rfl⟩
      have hYs : Y.size = i.name.size + 1 := by rw [hY, ByteArray.size_append]; rfl
      have a1 : ∀ wx, (Op.stringOp .add i.name ⟨#[32]⟩).run Tryz.prog wx = .ok (.string Y) wx := fun wx => by rw [hY]; exact run_string_add_sum wx _ _ (by rw [← ByteArray.size_append, ← hY]; omega)
      have a2 : ∀ wx, (Op.stringOp .add Y X).run Tryz.prog wx = .ok (.string (Y ++ X)) wx := fun wx => run_string_add_sum wx _ _ (by omega)
      have HE : Hid (Y ++ X = ⟨LN.toArray⟩) := by
        show _ = _
        rw [hY, HLE.out.1, htb, if_neg hbe, hX]
        have en : i.name = ⟨i.name.toList.toArray⟩ := (ba_list i.name).symm
        generalize behL i (formL8 i.name) = BB
        generalize i.name.toList = NL at en
        rw [en, ba_app, ba_app]
        simp
      clear hbe hX htb hsz hll hY hYs
      go_wp2
      go_ret
      exact ⟨by rw [← HE.out]; rfl, HB2.out⟩
end Go.Proofs.YtglkkeelocdanaaGreatDoor
