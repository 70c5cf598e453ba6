/- What is proved here: there and back, in plain numbers: a word's bits that its row fixes; rows do not share words. -/
import Derived.Test.YtglkkeelocdanaaDoorEn
namespace Go.Proofs.YtglkkeelocdanaaDoor
open Go.RowKit
set_option linter.unusedVariables false
set_option linter.unusedSimpArgs false
set_option maxRecDepth 100000
theorem shN_small (r m : Nat) (h : r * m < 4294967296) (hr : r < 4294967296) : shN (r : Int) m = r * m := by
  unfold shN
  rw [show ((r : Int) % 4294967296).toNat = r from by omega, Nat.mod_eq_of_lt h]
theorem match_word {x : Nat} {r : Rw} (h : matchB x r = true) : r.op = x / 67108864 ∧ wordN r.shape (insN r.shape x) = x ∧ allowsB r.shape (insN r.shape x) = true := by
  simp only [matchB, belongB, Bool.and_eq_true, beq_iff_eq] at h
  exact ⟨h.1, h.2.2.1, h.2.2.2⟩
theorem names_apart : (List.range 83).all (fun k => rowsL.findIdx? (nameB (rowsL.getD k zeroR).name) == some k) = true := by decide +kernel
theorem found_name {a : Nat} (ha : a < rowsL.length) (n : ByteArray) (hn : n = rowsL[a].name) : rowsL.find? (nameB n) = some rowsL[a] := by
  have h := List.all_eq_true.1 names_apart a (List.mem_range.2 (by rw [rows_len] at ha; exact ha))
  have e : rowsL.getD a zeroR = rowsL[a] := by rw [List.getD_eq_getElem?_getD, List.getElem?_eq_getElem ha]; rfl
  rw [e] at h
  have h : rowsL.findIdx? (nameB rowsL[a].name) = some a := by simpa using h
  rw [hn]
  obtain ⟨h1, h2, h3⟩ := List.findIdx?_eq_some_iff_getElem.1 h
  rw [List.find?_eq_some_iff_getElem]
  exact ⟨h2, a, h1, rfl, fun j hj => by simpa using h3 j hj⟩
theorem toList_inj {a b : ByteArray} (h : a.toList = b.toList) : a = b := by
  rw [ByteArray.toList_eq, ByteArray.toList_eq] at h
  obtain ⟨⟨x⟩⟩ := a
  obtain ⟨⟨y⟩⟩ := b
  have h : x = y := h
  rw [h]
/-- What is told of a word that is an instruction's. -/
theorem word_is {x : Nat} (h : isWord x = true) : ∃ a, ∃ ha : a < rowsL.length, matchB x rowsL[a] = true ∧ decN x = insN rowsL[a].shape x := by
  have hd : decN x = insN (rowOf x).shape x := by rw [decN, if_pos h]
  unfold isWord isFound at h
  obtain ⟨r, hr⟩ := Option.isSome_iff_exists.1 h
  have hm := List.find?_some hr
  obtain ⟨a, ha, e⟩ := List.getElem_of_mem (List.mem_of_find?_eq_some hr)
  refine ⟨a, ha, by rw [e]; exact hm, ?_⟩
  rw [hd, rowOf, foundR, hr, e]; rfl
theorem ins_is {i : In} (h : isIns i = true) : ∃ a, ∃ ha : a < rowsL.length, i.name = rowsL[a].name ∧ belongB rowsL[a].shape i (wordN rowsL[a].shape i) = true ∧ encN i = wordN rowsL[a].shape i := by
  obtain ⟨e1, e2⟩ := enc_is i
  rw [h, if_pos rfl] at e2
  rw [h] at e1
  have e1 := e1.symm
  rw [Bool.and_eq_true] at e1
  obtain ⟨hf, hb⟩ := e1
  unfold isFound at hf
  obtain ⟨r, hr⟩ := Option.isSome_iff_exists.1 hf
  have hm : nameB i.name r = true := List.find?_some hr
  unfold nameB at hm
  obtain ⟨a, ha, e⟩ := List.getElem_of_mem (List.mem_of_find?_eq_some hr)
  have hF : foundR (nameB i.name) = rowsL[a] := by rw [foundR, hr, e]; rfl
  rw [hF] at hb e2
  exact ⟨a, ha, by rw [e]; exact (toList_inj (by simpa using hm)).symm, hb, e2⟩
theorem ins_of {i : In} {a : Nat} (ha : a < rowsL.length) (hn : i.name = rowsL[a].name) (hb : belongB rowsL[a].shape i (wordN rowsL[a].shape i) = true) : isIns i = true ∧ encN i = wordN rowsL[a].shape i := by
  have hr := found_name ha i.name hn
  have hF : foundR (nameB i.name) = rowsL[a] := by rw [foundR, hr]; rfl
  obtain ⟨e1, e2⟩ := enc_is i
  rw [hF] at e1 e2
  rw [show isFound (nameB i.name) = true from by rw [isFound, hr]; rfl, hb] at e1
  rw [show isIns i = true from by rw [e1]; rfl] at e2 ⊢
  exact ⟨rfl, e2.trans (if_pos rfl)⟩
theorem inEq_refl (i : In) : inEq i i = true := (inEq_iff i i).2 rfl
/-- Encode of Decode. -/
theorem back1 {x : Nat} (h : isWord x = true) : isIns (decN x) = true ∧ encN (decN x) = x := by
  obtain ⟨a, ha, hm, hd⟩ := word_is h
  obtain ⟨h1, h2, h3⟩ := match_word hm
  rw [hd]
  have := ins_of (i := insN rowsL[a].shape x) ha rfl (by rw [h2, belongB, inEq_refl, h2, h3]; simp)
  rw [h2] at this
  exact this
end Go.Proofs.YtglkkeelocdanaaDoor
