/- What is proved here: there and back, in plain numbers: a word's bits that its row fixes; rows do not share words. -/
import Derived.Test.YtglkkeelocdanaaGreatDoorEn
namespace Go.Proofs.YtglkkeelocdanaaGreatDoor
open Go.RowKit
set_option linter.unusedVariables false
set_option linter.unusedSimpArgs false
set_option maxRecDepth 100000
theorem tb_mul (y k j : Nat) : (y / 2 ^ k % 32 * 2 ^ k).testBit j = (decide (k ≤ j) && (decide (j < k + 5) && y.testBit j)) := by
  rw [Nat.testBit_mul_two_pow, show (32 : Nat) = 2 ^ 5 from rfl, Nat.testBit_mod_two_pow, Nat.testBit_div_two_pow]
  by_cases h : k ≤ j
  · have e : j - k + k = j := by omega
    have e2 : (j - k < 5) ↔ (j < k + 5) := by omega
    simp [h, e, e2]
  · simp [h]
theorem tb_imm (y k j : Nat) : (y / 2 ^ k * 2 ^ k % 4294967296).testBit j = (decide (j < 32) && (decide (k ≤ j) && y.testBit j)) := by
  rw [show (4294967296 : Nat) = 2 ^ 32 from rfl, Nat.testBit_mod_two_pow, Nat.testBit_mul_two_pow, Nat.testBit_div_two_pow]
  by_cases h : k ≤ j
  · have e : j - k + k = j := by omega
    simp [h, e]
  · simp [h]
theorem shN_small (r m : Nat) (h : r * m < 4294967296) (hr : r < 4294967296) : shN (r : Int) m = r * m := by
  unfold shN
  rw [show ((r : Int) % 4294967296).toNat = r from by omega, Nat.mod_eq_of_lt h]
/-- A word's word, bit by bit. -/
theorem word_bit (s : Sh) (x j : Nat) : (wordN s (insN s x)).testBit j = (((s.op * 67108864 % 4294967296 ||| s.same).testBit j || (x.testBit j && (s.few.testBit j && ((decide (21 ≤ j) && decide (j < 26)) || ((decide (16 ≤ j) && decide (j < 21)) || ((decide (11 ≤ j) && decide (j < 16)) || (decide (6 ≤ j) && decide (j < 11)))))))) || ((if isDsd s then shN (insN s x).rd 65536 else 0).testBit j || (decide (j < 32) && (decide (tzN s.great ≤ j) && (x.testBit j && s.great.testBit j))))) := by
  have l : ∀ a : Nat, a % 32 < 32 := fun a => Nat.mod_lt _ (by decide)
  have a1 : shN (insN s x).rs 2097152 = (x &&& s.few) / 2 ^ 21 % 32 * 2 ^ 21 := shN_small _ 2097152 (by have := l ((x &&& s.few) / 2097152); omega) (by have := l ((x &&& s.few) / 2097152); omega)
  have a2 : shN (insN s x).rt 65536 = (x &&& s.few) / 2 ^ 16 % 32 * 2 ^ 16 := shN_small _ 65536 (by have := l ((x &&& s.few) / 65536); omega) (by have := l ((x &&& s.few) / 65536); omega)
  have a3 : shN (insN s x).rd 2048 = (x &&& s.few) / 2 ^ 11 % 32 * 2 ^ 11 := shN_small _ 2048 (by have := l ((x &&& s.few) / 2048); omega) (by have := l ((x &&& s.few) / 2048); omega)
  have a4 : shN (insN s x).sa 64 = (x &&& s.few) / 2 ^ 6 % 32 * 2 ^ 6 := shN_small _ 64 (by have := l ((x &&& s.few) / 64); omega) (by have := l ((x &&& s.few) / 64); omega)
  have a5 : (insN s x).imm * 2 ^ tzN s.great % 4294967296 = (x &&& s.great) / 2 ^ tzN s.great * 2 ^ tzN s.great % 4294967296 := rfl
  rw [wordN, bareN, a1, a2, a3, a4, a5]
  generalize (if isDsd s then shN (insN s x).rd 65536 else 0) = dd
  generalize s.op * 67108864 % 4294967296 ||| s.same = oo
  simp only [Nat.testBit_or, tb_mul, tb_imm, Nat.testBit_and]
  cases x.testBit j <;> cases s.few.testBit j <;> cases oo.testBit j <;> cases dd.testBit j <;> simp [Bool.or_assoc]
  all_goals (by_cases h1 : 21 ≤ j <;> by_cases h2 : j < 26 <;> by_cases h3 : 16 ≤ j <;> by_cases h4 : j < 21 <;> by_cases h5 : 11 ≤ j <;> by_cases h6 : j < 16 <;> by_cases h7 : 6 ≤ j <;> by_cases h8 : j < 11 <;> simp [h1, h2, h3, h4, h5, h6, h7, h8])
/-- The bits that a shape fixes. -/
def maskN (s : Sh) : Nat := 4294967295 - (s.few ||| s.great ||| (if isDsd s then 2031616 else 0))
def keyN (s : Sh) : Nat := (s.op * 67108864 % 4294967296 ||| s.same) &&& maskN s
theorem tb_rt (j : Nat) : (2031616 : Nat).testBit j = (decide (16 ≤ j) && decide (j < 21)) := by
  rw [show (2031616 : Nat) = (2 ^ 5 - 1) * 2 ^ 16 from rfl, Nat.testBit_mul_two_pow, Nat.testBit_two_pow_sub_one]
  by_cases h : 16 ≤ j
  · have e2 : (j - 16 < 5) ↔ (j < 21) := by omega
    simp [h, e2]
  · simp [h]
theorem fixed (s : Sh) (x : Nat) (hf : s.few < 4294967296) (hg : s.great < 4294967296) (hw : wordN s (insN s x) = x) : x &&& maskN s = keyN s := by
  have hy : (s.few ||| s.great ||| (if isDsd s then 2031616 else 0)) < 2 ^ 32 := by
    refine or_lt _ _ (or_lt _ _ hf hg) ?_
    split <;> omega
  have hm : ∀ j, (maskN s).testBit j = (decide (j < 32) && !(s.few ||| s.great ||| (if isDsd s then 2031616 else 0)).testBit j) := fun j => by
    have h := Nat.testBit_two_pow_sub_succ hy j
    have e : maskN s = 2 ^ 32 - ((s.few ||| s.great ||| (if isDsd s then 2031616 else 0)) + 1) := by
      unfold maskN; omega
    rw [e]; exact h
  refine Nat.eq_of_testBit_eq (fun j => ?_)
  rw [keyN, Nat.testBit_and, Nat.testBit_and]
  cases hb : (maskN s).testBit j with
  | false => simp
  | true =>
    rw [Bool.and_true, Bool.and_true]
    rw [hm j] at hb
    simp only [Nat.testBit_or, Bool.and_eq_true, Bool.not_eq_true', Bool.or_eq_false_iff] at hb
    obtain ⟨_, ⟨h1, h2⟩, h3⟩ := hb
    have hd : (if isDsd s then shN (insN s x).rd 65536 else 0).testBit j = false := by
      cases hs : isDsd s with
      | false => simp
      | true =>
        rw [if_pos rfl]
        rw [hs, if_pos rfl, tb_rt] at h3
        have l : (x &&& s.few) / 2048 % 32 < 32 := Nat.mod_lt _ (by decide)
        have e : shN (insN s x).rd 65536 = (x &&& s.few) / 2048 % 32 * 2 ^ 16 := shN_small _ 65536 (by omega) (by omega)
        rw [e, Nat.testBit_mul_two_pow]
        by_cases h16 : 16 ≤ j
        · have h21 : ¬ j < 21 := by simpa [h16] using h3
          rw [Nat.testBit_lt_two_pow (Nat.lt_of_lt_of_le l (show 32 ≤ 2 ^ (j - 16) from by have := Nat.pow_le_pow_right (n := 2) (by decide) (show 5 ≤ j - 16 by omega); simpa using this))]
          simp
        · simp [h16]
    conv => lhs; rw [← hw]
    rw [word_bit, h1, h2, hd]
    simp
def keysL : List (Nat × Nat) := [(0, 4292870207), (2, 4292870207), (3, 4292870207), (4, 4227860479), (6, 4227860479), (7, 4227860479), (8, 4229955583), (9, 4229892095), (10, 4227860479), (11, 4227860479), (12, 4227858495), (13, 4227858495), (16, 4294903807), (17, 4229955583), (18, 4294903807), (19, 4229955583), (24, 4227923967), (25, 4227923967), (26, 4227923967), (27, 4227923967), (32, 4227860479), (33, 4227860479), (34, 4227860479), (35, 4227860479), (36, 4227860479), (37, 4227860479), (38, 4227860479), (39, 4227860479), (42, 4227860479), (43, 4227860479), (48, 4227923967), (49, 4227923967), (50, 4227923967), (51, 4227923967), (52, 4227923967), (54, 4227923967), (67108864, 4229890048), (67174400, 4229890048), (68157440, 4229890048), (68222976, 4229890048), (134217728, 4227858432), (201326592, 4227858432), (268435456, 4227858432), (335544320, 4227858432), (402653184, 4229890048), (469762048, 4229890048), (536870912, 4227858432), (603979776, 4227858432), (671088640, 4227858432), (738197504, 4227858432), (805306368, 4227858432), (872415232, 4227858432), (939524096, 4227858432), (1006632960, 4292870144), (1879048192, 4227923967), (1879048193, 4227923967), (1879048194, 4227860479), (1879048196, 4227923967), (1879048197, 4227923967), (1879048224, 4227860479), (1879048225, 4227860479), (2080374784, 4227858495), (2080374788, 4227858495), (2080374944, 4292872191), (2080375840, 4292872191), (2080376352, 4292872191), (2080374843, 4292872191), (2147483648, 4227858432), (2214592512, 4227858432), (2281701376, 4227858432), (2348810240, 4227858432), (2415919104, 4227858432), (2483027968, 4227858432), (2550136832, 4227858432), (2684354560, 4227858432), (2751463424, 4227858432), (2818572288, 4227858432), (2885681152, 4227858432), (3087007744, 4227858432), (3221225472, 4227858432), (3758096384, 4227858432), (2097154, 4292870207), (70, 4227860479)]
theorem keys_are : rowsL.map (fun r => (keyN r.shape, maskN r.shape)) = keysL := by decide +kernel
def apartB (l : List (Nat × Nat)) : Bool := (List.range l.length).all (fun a => (List.range l.length).all (fun b => a == b || ((l.getD a (0, 0)).1 &&& (l.getD b (0, 0)).2) != ((l.getD b (0, 0)).1 &&& (l.getD a (0, 0)).2)))
theorem keys_apart : apartB keysL = true := by decide +kernel
theorem match_word {x : Nat} {r : Rw} (h : matchB x r = true) : r.op = x / 67108864 ∧ wordN r.shape (insN r.shape x) = x ∧ allowsB r.shape (insN r.shape x) = true := by
  simp only [matchB, belongB, Bool.and_eq_true, beq_iff_eq] at h
  exact ⟨h.1, h.2.2.1, h.2.2.2⟩
theorem great_lt {g : Nat} (h : Great g) : g < 67108864 := by rcases h with h | h | h | h <;> omega
theorem match_key {x : Nat} {r : Rw} (hr : RowOk r) (h : matchB x r = true) : x &&& maskN r.shape = keyN r.shape :=
  fixed _ _ (by have := hr.few; omega) (by have := great_lt hr.great; omega) (match_word h).2.1
/-- No word is two rows'. -/
theorem match_one {x a b : Nat} (ha : a < rowsL.length) (hb : b < rowsL.length) (h1 : matchB x rowsL[a] = true) (h2 : matchB x rowsL[b] = true) : a = b := by
  have k1 := match_key (row_ok (List.getElem_mem ha)) h1
  have k2 := match_key (row_ok (List.getElem_mem hb)) h2
  have la : a < keysL.length := by rw [← keys_are, List.length_map]; exact ha
  have lb : b < keysL.length := by rw [← keys_are, List.length_map]; exact hb
  have ga : keysL.getD a (0, 0) = (keyN rowsL[a].shape, maskN rowsL[a].shape) := by
    rw [← keys_are, List.getD_eq_getElem?_getD, List.getElem?_map, List.getElem?_eq_getElem ha]; rfl
  have gb : keysL.getD b (0, 0) = (keyN rowsL[b].shape, maskN rowsL[b].shape) := by
    rw [← keys_are, List.getD_eq_getElem?_getD, List.getElem?_map, List.getElem?_eq_getElem hb]; rfl
  generalize rowsL[a].shape = sa at k1 ga
  generalize rowsL[b].shape = sb at k2 gb
  have h := keys_apart
  unfold apartB at h
  have h := List.all_eq_true.1 (List.all_eq_true.1 h a (List.mem_range.2 la)) b (List.mem_range.2 lb)
  rw [ga, gb] at h
  simp only [Bool.or_eq_true, beq_iff_eq, bne_iff_ne] at h
  rcases h with h | h
  · exact h
  · exfalso
    apply h
    rw [← k1, ← k2, Nat.and_assoc, Nat.and_assoc, Nat.and_comm (maskN sa)]
theorem found_match {x a : Nat} (ha : a < rowsL.length) (h : matchB x rowsL[a] = true) : rowsL.find? (matchB x) = some rowsL[a] := by
  rw [List.find?_eq_some_iff_getElem]
  refine ⟨h, a, ha, rfl, fun j hj => ?_⟩
  have hjl : j < rowsL.length := by omega
  cases c : matchB x rowsL[j] with
  | false => rfl
  | true => have := match_one hjl ha c h; omega
theorem names_apart : (List.range 83).all (fun k => rowsL.findIdx? (nameB (rowsL.getD k zeroR).name) == some k) = true := by decide +kernel
theorem found_name {a : Nat} (ha : a < rowsL.length) (n : ByteArray) (hn : n = rowsL[a].name) : rowsL.find? (nameB n) = some rowsL[a] := by
  have h := List.all_eq_true.1 names_apart a (List.mem_range.2 (by rw [rows_len] at ha; exact ha))
  have e : rowsL.getD a zeroR = rowsL[a] := by rw [List.getD_eq_getElem?_getD, List.getElem?_eq_getElem ha]; rfl
  rw [e] at h
  have h : rowsL.findIdx? (nameB rowsL[a].name) = some a := by simpa using h
  rw [hn]
  obtain ⟨h1, h2, h3⟩ := List.findIdx?_eq_some_iff_getElem.1 h
  rw [List.find?_eq_some_iff_getElem]
  exact ⟨h2, a, h1, rfl, fun j hj => by simpa using h3 j hj⟩
theorem toList_inj {a b : ByteArray} (h : a.toList = b.toList) : a = b := by
  rw [ByteArray.toList_eq, ByteArray.toList_eq] at h
  obtain ⟨⟨x⟩⟩ := a
  obtain ⟨⟨y⟩⟩ := b
  have h : x = y := h
  rw [h]
/-- What is told of a word that is an instruction's. -/
theorem word_is {x : Nat} (h : isWord x = true) : ∃ a, ∃ ha : a < rowsL.length, matchB x rowsL[a] = true ∧ decN x = insN rowsL[a].shape x := by
  have hd : decN x = insN (rowOf x).shape x := by rw [decN, if_pos h]
  unfold isWord isFound at h
  obtain ⟨r, hr⟩ := Option.isSome_iff_exists.1 h
  have hm := List.find?_some hr
  obtain ⟨a, ha, e⟩ := List.getElem_of_mem (List.mem_of_find?_eq_some hr)
  refine ⟨a, ha, by rw [e]; exact hm, ?_⟩
  rw [hd, rowOf, foundR, hr, e]; rfl
theorem ins_is {i : In} (h : isIns i = true) : ∃ a, ∃ ha : a < rowsL.length, i.name = rowsL[a].name ∧ belongB rowsL[a].shape i (wordN rowsL[a].shape i) = true ∧ encN i = wordN rowsL[a].shape i := by
  obtain ⟨e1, e2⟩ := enc_is i
  rw [h, if_pos rfl] at e2
  rw [h] at e1
  have e1 := e1.symm
  rw [Bool.and_eq_true] at e1
  obtain ⟨hf, hb⟩ := e1
  unfold isFound at hf
  obtain ⟨r, hr⟩ := Option.isSome_iff_exists.1 hf
  have hm : nameB i.name r = true := List.find?_some hr
  unfold nameB at hm
  obtain ⟨a, ha, e⟩ := List.getElem_of_mem (List.mem_of_find?_eq_some hr)
  have hF : foundR (nameB i.name) = rowsL[a] := by rw [foundR, hr, e]; rfl
  rw [hF] at hb e2
  exact ⟨a, ha, by rw [e]; exact (toList_inj (by simpa using hm)).symm, hb, e2⟩
theorem ins_of {i : In} {a : Nat} (ha : a < rowsL.length) (hn : i.name = rowsL[a].name) (hb : belongB rowsL[a].shape i (wordN rowsL[a].shape i) = true) : isIns i = true ∧ encN i = wordN rowsL[a].shape i := by
  have hr := found_name ha i.name hn
  have hF : foundR (nameB i.name) = rowsL[a] := by rw [foundR, hr]; rfl
  obtain ⟨e1, e2⟩ := enc_is i
  rw [hF] at e1 e2
  rw [show isFound (nameB i.name) = true from by rw [isFound, hr]; rfl, hb] at e1
  rw [show isIns i = true from by rw [e1]; rfl] at e2 ⊢
  exact ⟨rfl, e2.trans (if_pos rfl)⟩
theorem inEq_refl (i : In) : inEq i i = true := (inEq_iff i i).2 rfl
/-- Encode of Decode. -/
theorem back1 {x : Nat} (h : isWord x = true) : isIns (decN x) = true ∧ encN (decN x) = x := by
  obtain ⟨a, ha, hm, hd⟩ := word_is h
  obtain ⟨h1, h2, h3⟩ := match_word hm
  rw [hd]
  have := ins_of (i := insN rowsL[a].shape x) ha rfl (by rw [h2, belongB, inEq_refl, h2, h3]; simp)
  rw [h2] at this
  exact this
end Go.Proofs.YtglkkeelocdanaaGreatDoor
