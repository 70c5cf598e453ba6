/- What is proved here: the document's Encode, Form and guess are the program's. -/
import Derived.Test.YtglkkeelocdanaaGreatDoorPx
import Derived.Test.YtglkkeelocdanaaGreatDoorGu
namespace Go.Proofs.YtglkkeelocdanaaGreatDoor
open Go.RowKit
set_option linter.unusedVariables false
set_option linter.unusedSimpArgs false
set_option maxRecDepth 100000
section
variable {s : Sh} {d : Dr} {b1 b2 b3 b4 : Bool} {wd : Nat}
theorem cls_cases (f : List UInt8) : (cls f = 1 → (f == [106]) = true) ∧ (cls f = 2 → (f == [106]) = false ∧ (f == [99]) = true) ∧ (cls f = 3 → (f == [106]) = false ∧ (f == [99]) = false ∧ (f == [115, 111] || (f == [115, 116, 111] || (f == [116, 115, 105] || (f == [116, 105] || f == [116, 109])))) = true) ∧
    (cls f = 4 → (f == [106]) = false ∧ (f == [99]) = false ∧ (f == [115, 111] || (f == [115, 116, 111] || (f == [116, 115, 105] || (f == [116, 105] || f == [116, 109])))) = false ∧ (f == [100, 115, 100]) = true) ∧
    (cls f = 5 → (f == [106]) = false ∧ (f == [99]) = false ∧ (f == [115, 111] || (f == [115, 116, 111] || (f == [116, 115, 105] || (f == [116, 105] || f == [116, 109])))) = false ∧ (f == [100, 115, 100]) = false ∧ (f == [100, 116, 114]) = true) ∧
    (cls f = 6 → (f == [106]) = false ∧ (f == [99]) = false ∧ (f == [115, 111] || (f == [115, 116, 111] || (f == [116, 115, 105] || (f == [116, 105] || f == [116, 109])))) = false ∧ (f == [100, 115, 100]) = false ∧ (f == [100, 116, 114]) = false ∧ (f == [100, 116, 118]) = true) ∧
    (cls f = 7 → (f == [106]) = false ∧ (f == [99]) = false ∧ (f == [115, 111] || (f == [115, 116, 111] || (f == [116, 115, 105] || (f == [116, 105] || f == [116, 109])))) = false ∧ (f == [100, 115, 100]) = false ∧ (f == [100, 116, 114]) = false ∧ (f == [100, 116, 118]) = false ∧ (f == [100, 116]) = true) ∧
    (cls f = 8 → (f == [106]) = false ∧ (f == [99]) = false ∧ (f == [115, 111] || (f == [115, 116, 111] || (f == [116, 115, 105] || (f == [116, 105] || f == [116, 109])))) = false ∧ (f == [100, 115, 100]) = false ∧ (f == [100, 116, 114]) = false ∧ (f == [100, 116, 118]) = false ∧ (f == [100, 116]) = false) := by
  unfold cls
  cases h1 : (f == [106]) <;> cases h2 : (f == [99]) <;> cases h3 : (f == [115, 111] || (f == [115, 116, 111] || (f == [116, 115, 105] || (f == [116, 105] || f == [116, 109])))) <;> cases h4 : (f == [100, 115, 100]) <;> cases h5 : (f == [100, 116, 114]) <;> cases h6 : (f == [100, 116, 118]) <;> cases h7 : (f == [100, 116]) <;> simp
theorem word_eq (P : Pair s d b1 b2 b3 b4 wd) (i : In) (h1 : fitsB i.rs b1 = true) (h2 : fitsB i.rt b2 = true) (h3 : fitsB i.rd b3 = true) (h4 : fitsB i.sa b4 = true) (hm : i.imm < 2 ^ wd) : wordD i d = wordN s i := by
  obtain ⟨r1, r2, r3, r4, m, he, k1, k2, k3, k4, km, z1, z2, z3, z4⟩ := fit_all (wd := wd) h1 h2 h3 h4 hm
  rw [he, word_parts P _ k1 k2 k3 k4 km]
  have a1 : shN (r1 : Int) 2097152 = r1 * 2 ^ 21 := shN_small r1 2097152 (by omega) (by omega)
  have a2 : shN (r2 : Int) 65536 = r2 * 2 ^ 16 := shN_small r2 65536 (by omega) (by omega)
  have a3 : shN (r3 : Int) 2048 = r3 * 2 ^ 11 := shN_small r3 2048 (by omega) (by omega)
  have a4 : shN (r4 : Int) 64 = r4 * 2 ^ 6 := shN_small r4 64 (by omega) (by omega)
  have a5 : shN (r3 : Int) 65536 = r3 * 2 ^ 16 := shN_small r3 65536 (by omega) (by omega)
  have a6 : d.op * 67108864 % 4294967296 = s.op * 2 ^ 26 := by rw [P.op]; exact Nat.mod_eq_of_lt (by have := P.ol; omega)
  have m0 : wd = 0 → m = 0 := fun h => by rw [h] at km; simpa using km
  unfold wordD
  simp only
  rw [a1, a2, a3, a4, a5, a6, P.form]
  have C := cls_cases s.form.toList
  rcases P.cl with ⟨c, e1, e2, e3, e4⟩ | ⟨c, e1, e2, e3, e4⟩ | ⟨c, e1, e2, e3, e4, e5⟩ | ⟨c, e1, e2, e3, e4⟩ | ⟨c, e1, e2, e3, e4⟩ | ⟨c, e1, e2, e3, e4⟩ | ⟨c, e1, e2, e3, e4⟩ | ⟨c, e1, e2, e3⟩
  · have q := C.1 c
    simp only [Prod.mk.injEq] at e3
    rw [z1 e3.1, z2 e3.2.1, z3 e3.2.2.1, z4 e3.2.2.2, e1, e2, e4, q]; simp
  · obtain ⟨q1, q2⟩ := C.2.1 c
    simp only [Prod.mk.injEq] at e3
    have hl := imm_le P km
    rw [e2] at hl
    rw [z1 e3.1, z2 e3.2.1, z3 e3.2.2.1, z4 e3.2.2.2, e1, e2, e4, q1, q2]
    rw [show m * 64 % 4294967296 = m * 2 ^ 6 from Nat.mod_eq_of_lt (by omega)]
    simp only [if_true, if_false, Bool.false_eq_true, Nat.zero_mul, Nat.or_zero]
    rw [Nat.or_assoc, Nat.or_assoc, Nat.or_comm (m * 2 ^ 6)]
  · obtain ⟨q1, q2, q3⟩ := C.2.2.1 c
    rw [z3 e2, z4 e3, e1, e4, q1, q2, q3]
    rcases e5 with ⟨f1, f2, f3⟩ | ⟨f1, f2⟩
    · rw [z2 f3, P.op, f1, f2]
      simp only [if_true, if_false, Bool.false_eq_true, Nat.zero_mul, Nat.or_zero, Nat.pow_zero, Nat.mul_one]
      generalize d.sub * 65536 % 4294967296 = U
      rw [Nat.or_assoc (1 * 2 ^ 26), Nat.or_comm (r1 * 2 ^ 21), ← Nat.or_assoc (1 * 2 ^ 26)]
    · rw [P.op, f2]
      simp only [if_true, if_false, Bool.false_eq_true, Nat.zero_mul, Nat.or_zero, Nat.pow_zero, Nat.mul_one, f1]
      rw [Nat.or_assoc (s.op * 2 ^ 26)]
  · obtain ⟨q1, q2, q3, q4⟩ := C.2.2.2.1 c
    rw [z2 e2, m0 e3, e1, e4, q1, q2, q3, q4]
    simp only [if_true, if_false, Bool.false_eq_true, Nat.zero_mul, Nat.or_zero]
    ac_rfl
  · obtain ⟨q1, q2, q3, q4, q5⟩ := C.2.2.2.2.1 c
    rw [z1 e2, m0 e3, e1, e4, q1, q2, q3, q4, q5]
    simp only [if_true, if_false, Bool.false_eq_true, Nat.zero_mul, Nat.or_zero, Nat.zero_or]
    ac_rfl
  · obtain ⟨q1, q2, q3, q4, q5, q6⟩ := C.2.2.2.2.2.1 c
    rw [z4 e2, m0 e3, e1, e4, q1, q2, q3, q4, q5, q6]
    simp only [if_true, if_false, Bool.false_eq_true, Nat.zero_mul, Nat.or_zero, Nat.zero_or]
    ac_rfl
  · obtain ⟨q1, q2, q3, q4, q5, q6, q7⟩ := C.2.2.2.2.2.2.1 c
    rw [z4 e2, m0 e3, e1, e4, q1, q2, q3, q4, q5, q6, q7]
    simp only [if_true, if_false, Bool.false_eq_true, Nat.zero_mul, Nat.or_zero, Nat.zero_or]
    ac_rfl
  · obtain ⟨q1, q2, q3, q4, q5, q6, q7⟩ := C.2.2.2.2.2.2.2 c
    rw [m0 e2, e1, e3, q1, q2, q3, q4, q5, q6, q7]
    simp only [if_true, if_false, Bool.false_eq_true, Nat.zero_mul, Nat.or_zero, Nat.zero_or]
    ac_rfl
end
theorem td_ok : rowsL.all (fun r => decide (r.form.toList = [116, 100] → r.name.toList ≠ [101, 120, 116] ∧ r.name.toList ≠ [105, 110, 115])) = true := by decide +kernel
theorem row_pair {a : Nat} (ha : a < rowsL.length) : Pair rowsL[a].shape (selA rowsL[a].name) (regsD (selA rowsL[a].name).form).1 (regsD (selA rowsL[a].name).form).2.1 (regsD (selA rowsL[a].name).form).2.2.1 (regsD (selA rowsL[a].name).form).2.2.2 (wideN (selA rowsL[a].name).form) :=
  pair_of (List.all_eq_true.1 pairs rowsL[a] (List.getElem_mem ha))
theorem row_td {a : Nat} (ha : a < rowsL.length) : rowsL[a].shape.form.toList = [116, 100] → rowsL[a].shape.name.toList ≠ [101, 120, 116] ∧ rowsL[a].shape.name.toList ≠ [105, 110, 115] := by
  have := List.all_eq_true.1 td_ok rowsL[a] (List.getElem_mem ha)
  exact of_decide_eq_true this
/-- An instruction's name is a row's, or none. -/
theorem name_cases (n : ByteArray) : (∃ a, ∃ ha : a < rowsL.length, n = rowsL[a].name) ∨ rowsL.find? (nameB n) = none := by
  cases h : rowsL.find? (nameB n) with
  | none => exact .inr rfl
  | some r =>
    obtain ⟨a, ha, e⟩ := List.getElem_of_mem (List.mem_of_find?_eq_some h)
    have hm : nameB n r = true := List.find?_some h
    unfold nameB at hm
    exact .inl ⟨a, ha, by rw [e]; exact (toList_inj (by simpa using hm)).symm⟩
theorem fit_zero (i : In) : fitD i zeroD = false := by
  unfold fitD
  rw [show zeroD.form.toList.isEmpty = true from by decide +kernel]; rfl
theorem enc_eq (i : In) : isInsD i = isIns i ∧ encD i = encN i := by
  rcases name_cases i.name with ⟨a, ha, hn⟩ | h
  · have hr := found_name ha i.name hn
    have hF : foundR (nameB i.name) = rowsL[a] := by rw [foundR, hr]; rfl
    have P := row_pair ha
    have hfb := fit_belong P (row_td ha) i hn
    obtain ⟨e1, e2⟩ := enc_is i
    rw [hF, show isFound (nameB i.name) = true from by rw [isFound, hr]; rfl, Bool.true_and] at e1
    rw [hF] at e2
    have hI : isInsD i = isIns i := by rw [isInsD, hn, hfb, e1]
    refine ⟨hI, ?_⟩
    rw [encD, e2, hI]
    by_cases hi : isIns i = true
    · rw [if_pos hi, if_pos hi, hn]
      have hfit : fitD i (selA rowsL[a].name) = true := by rw [hfb, ← e1]; exact hi
      unfold fitD at hfit
      simp only [Bool.and_eq_true, Bool.not_eq_true', decide_eq_false_iff_not] at hfit
      exact word_eq P i hfit.2.1 hfit.2.2.1 hfit.2.2.2.1 hfit.2.2.2.2.1 (by have := hfit.2.2.2.2.2.1; omega)
    · rw [if_neg hi, if_neg hi]
  · have hI : isIns i = false := by rw [(enc_is i).1, show isFound (nameB i.name) = false from by rw [isFound, h]; rfl]; rfl
    have hD : isInsD i = false := by rw [isInsD, selA_none h]; exact fit_zero i
    exact ⟨by rw [hI, hD], by rw [encD, encN, hI, hD, if_neg (by decide), if_neg (by decide)]⟩
theorem form_eq (n : ByteArray) : (foundR (nameB n)).form = (selA n).form := by
  rcases name_cases n with ⟨a, ha, hn⟩ | h
  · have hF : foundR (nameB n) = rowsL[a] := by rw [foundR, found_name ha n hn]; rfl
    rw [hF, hn]
    exact (toList_inj (row_pair ha).form).symm
  · rw [foundR, h, selA_none h]; rfl
def wtB (s : Sh) (wd : Nat) : Bool := (wd == 16 && tzN s.great == 0) || ((wd == 20 && tzN s.great == 6) || ((wd == 26 && tzN s.great == 0) || (wd == 0 && s.great == 0)))
theorem wt_ok : rowsL.all (fun r => wtB r.shape (wideN (selA r.name).form)) = true := by decide +kernel
theorem guess_eq {a : Nat} (ha : a < rowsL.length) (x : Nat) : guessD rowsL[a].name (regsD (selA rowsL[a].name).form) (wideN (selA rowsL[a].name).form) x = insN rowsL[a].shape x := by
  have P := row_pair ha
  have hw := List.all_eq_true.1 wt_ok rowsL[a] (List.getElem_mem ha)
  have l : ∀ y : Nat, y % 32 < 32 := fun y => Nat.mod_lt _ (by decide)
  have z : ∀ (k few : Nat) (b : Bool), few / 2 ^ k % 32 = (if b then 31 else 0) → (((x &&& few) / 2 ^ k % 32 : Nat) : Int) = if b then ((x / 2 ^ k % 32 : Nat) : Int) else 0 := fun k few b hf => by
    rw [fld_and, hf]
    cases b with
    | true => rw [if_pos rfl, if_pos rfl, and_31 _ (l _)]
    | false => simp
  have hg := P.gr
  have f1 := z 21 _ _ P.f1
  have f2 := z 16 _ _ P.f2
  have f3 := z 11 _ _ P.f3
  have f4 := z 6 _ _ P.f4
  have hnm : rowsL[a].shape.name = rowsL[a].name := rfl
  generalize rowsL[a].shape = S at *
  generalize wideN (selA rowsL[a].name).form = wd at *
  generalize regsD (selA rowsL[a].name).form = g at *
  have hi : immD wd x = (x &&& S.great) / 2 ^ tzN S.great := by
    have hdv : (x &&& S.great) / 2 ^ tzN S.great = x / 2 ^ tzN S.great % 2 ^ wd := by
      have e : (x &&& S.great) / 2 ^ tzN S.great = (x / 2 ^ tzN S.great) &&& (S.great / 2 ^ tzN S.great) := by
        refine Nat.eq_of_testBit_eq (fun j => ?_)
        simp only [Nat.testBit_div_two_pow, Nat.testBit_and]
      rw [e, show S.great / 2 ^ tzN S.great = 2 ^ wd - 1 from by conv => lhs; lhs; rw [hg]
                                                                 exact Nat.mul_div_cancel _ (Nat.two_pow_pos _), Nat.and_two_pow_sub_one_eq_mod]
    rw [hdv]
    unfold wtB at hw
    simp only [Bool.or_eq_true, Bool.and_eq_true, beq_iff_eq] at hw
    unfold immD
    rcases hw with ⟨h1, h2⟩ | ⟨h1, h2⟩ | ⟨h1, h2⟩ | ⟨h1, h2⟩
    · rw [h1, h2]; simp
    · rw [h1, h2]; simp
    · rw [h1, h2]; simp
    · rw [h1]; simp [Nat.mod_one]
  unfold guessD insN
  rw [hi, hnm]
  simp only [In.mk.injEq]
  exact ⟨trivial, f1.symm, f2.symm, f3.symm, f4.symm, trivial⟩
/-- The document's test of a row is the program's. -/
theorem match_eq {a : Nat} (ha : a < rowsL.length) (x : Nat) : matchB x rowsL[a] = ((rowsL[a].op == x / 67108864) && (isIns (insN rowsL[a].shape x) && (encN (insN rowsL[a].shape x) == x))) := by
  unfold matchB
  congr 1
  obtain ⟨e1, e2⟩ := enc_is (insN rowsL[a].shape x)
  have hr := found_name ha (insN rowsL[a].shape x).name rfl
  have hF : foundR (nameB (insN rowsL[a].shape x).name) = rowsL[a] := by rw [foundR, hr]; rfl
  rw [hF, show isFound (nameB (insN rowsL[a].shape x).name) = true from by rw [isFound, hr]; rfl, Bool.true_and] at e1
  rw [hF] at e2
  rw [e2, e1]
  generalize insN rowsL[a].shape x = I at *
  generalize rowsL[a].shape = S at *
  rw [Bool.eq_iff_iff]
  constructor
  · intro h
    have hw : wordN S I = x := by
      simp only [belongB, Bool.and_eq_true, beq_iff_eq] at h
      exact h.2.1
    rw [hw, h]; simp
  · intro h
    rw [Bool.and_eq_true] at h
    obtain ⟨h1, h2⟩ := h
    rw [h1, if_pos rfl, beq_iff_eq] at h2
    rw [h2] at h1
    exact h1
end Go.Proofs.YtglkkeelocdanaaGreatDoor
