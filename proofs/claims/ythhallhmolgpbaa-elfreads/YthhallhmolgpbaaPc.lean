/- What is proved here: the document's way of reading a header finds the same first error, in plain words. -/
import Derived.Test.YthhallhmolgpbaaPb
namespace Go.Proofs.Ythhallhmolgpbaa
open Go.RowKit
set_option linter.unusedVariables false
set_option linter.unusedSimpArgs false
set_option maxRecDepth 100000
def midL (l : L8) : L8 := (l.drop 16).take 28
def finL (l : L8) : L8 := (l.drop 46).take 6
theorem mid_parts (l : L8) : midL l = (l.drop 16).take 2 ++ ((l.drop 18).take 6 ++ ((l.drop 24).take 4 ++ (l.drop 28).take 16)) := by
  unfold midL
  rw [tkt l 24 4 28 16 rfl, tkt l 18 6 24 20 rfl, tkt l 16 2 18 26 rfl]
theorem mid_get (l : L8) : ((midL l).drop 2).take 6 = (l.drop 18).take 6 ∧ ((midL l).drop 12).take 16 = (l.drop 28).take 16 := by
  unfold midL
  constructor
  · rw [List.drop_take, List.drop_drop, List.take_take]; rfl
  · rw [List.drop_take, List.drop_drop, List.take_take]; rfl
/-- The header that the document writes for comparison. -/
def cmpE (l : L8) : Ef := ⟨hf l 16 == 3, wd l 24, []⟩
theorem cmp_mid (l : L8) (h52 : 52 ≤ l.length) (hk : hf l 16 = 2 ∨ hf l 16 = 3) : midL (headB (cmpE l)) = (l.drop 16).take 2 ++ (entL ++ ((l.drop 24).take 4 ++ cntL)) ∧ finL (headB (cmpE l)) = endL := by
  obtain ⟨m1, m2, m3, m4, m5, m6, m7⟩ := head_parts (cmpE l) []
  rw [List.append_nil] at m1 m2 m3 m4 m5 m6 m7
  have e1 : (if (cmpE l).shared then 3 else 2) = hf l 16 := by
    show (if (hf l 16 == 3) = true then 3 else 2) = hf l 16
    rcases hk with k | k <;> rw [k] <;> rfl
  have e2 : (cmpE l).entry = wd l 24 := rfl
  refine ⟨?_, m7⟩
  rw [mid_parts, m2, m3, m4, m5, e1, e2, bN_hf l 16 (by omega), bN_wd l 24 (by omega)]
theorem cmp_form (l : L8) (h52 : 52 ≤ l.length) (hk : hf l 16 = 2 ∨ hf l 16 = 3) (hn : hf l 44 ≤ 16) : formOk l = ((midL l == midL (headB (cmpE l))) && (finL l == finL (headB (cmpE l)))) := by
  obtain ⟨c1, c2⟩ := cmp_mid l h52 hk
  rw [Bool.eq_iff_iff, Bool.and_eq_true, beq_iff_eq, beq_iff_eq, c1, c2]
  constructor
  · intro h
    obtain ⟨_, h2, h3, _, h5⟩ := form_parts h
    exact ⟨by rw [mid_parts, h2, h3], h5⟩
  · rintro ⟨h1, h2⟩
    obtain ⟨g1, g2⟩ := mid_get l
    rw [h1] at g1 g2
    have l2 : ((l.drop 16).take 2).length = 2 := part_len l 16 2 (by omega)
    have l4 : ((l.drop 24).take 4).length = 4 := part_len l 24 4 (by omega)
    refine form_of hk ?_ ?_ hn h2
    · rw [← g1]
      exact part_of _ ((l.drop 16).take 2) entL _ 2 6 rfl l2 rfl
    · rw [← g2]
      exact part_of _ ((l.drop 16).take 2 ++ (entL ++ (l.drop 24).take 4)) cntL [] 12 16 (by simp only [List.append_assoc, List.append_nil]) (by rw [List.length_append, List.length_append, l2, l4]; rfl) rfl
theorem cmp_fit (l : L8) : fitE (cmpE l) = true := rfl
theorem cmp_wr (l : L8) : wrL (cmpE l) = headB (cmpE l) := by
  unfold wrL
  rw [if_pos (cmp_fit l)]
  show headB (cmpE l) ++ [] = _
  rw [List.append_nil]
/-- The document's look at a segment. -/
def segOkD (l : L8) : Bool := segOk l && decide (wd l 0 ≤ 3)
theorem hd_101 {l : L8} (h : l.length < 52) : parE l = 101 := by
  have e : hdE l = 101 := by unfold hdE; rw [if_pos h]
  unfold parE; rw [if_neg (by rw [e]; decide), e]
theorem hd_102 {l : L8} (h1 : ¬ l.length < 52) (h2 : (l.take 16 == magicL) = false) : parE l = 102 := by
  have e : hdE l = 102 := by unfold hdE; rw [if_neg h1, if_pos h2]
  unfold parE; rw [if_neg (by rw [e]; decide), e]
theorem hd_103 {l : L8} (h1 : ¬ l.length < 52) (h2 : (l.take 16 == magicL) = true) (h3 : formOk l = false) : parE l = 103 := by
  have e : hdE l = 103 := by unfold hdE; rw [if_neg h1, if_neg (by rw [h2]; decide), if_pos h3]
  unfold parE; rw [if_neg (by rw [e]; decide), e]
theorem hd_cut {l : L8} (h1 : ¬ l.length < 52) (h2 : (l.take 16 == magicL) = true) (h3 : formOk l = true) (h4 : l.length < 52 + 32 * hf l 44) : parE l = 101 := by
  have e : hdE l = 101 := by unfold hdE; rw [if_neg h1, if_neg (by rw [h2]; decide), if_neg (by rw [h3]; decide), if_pos h4]
  unfold parE; rw [if_neg (by rw [e]; decide), e]
theorem hd_unfit {l : L8} (h1 : ¬ l.length < 52) (h2 : (l.take 16 == magicL) = true) (h3 : formOk l = true) (h4 : ¬ l.length < 52 + 32 * hf l 44) (h5 : fitE (efAt l) = false) : parE l = 103 := by
  have e : hdE l = 103 := by
    unfold hdE
    rw [if_neg h1, if_neg (by rw [h2]; decide), if_neg (by rw [h3]; decide), if_neg h4]
    by_cases h6 : segsOk l (hf l 44) = false
    · rw [if_pos h6]
    · rw [if_neg h6, if_pos h5]
  unfold parE; rw [if_neg (by rw [e]; decide), e]
theorem hd_seg {l : L8} (h1 : ¬ l.length < 52) (h2 : (l.take 16 == magicL) = true) (h3 : formOk l = true) (h4 : ¬ l.length < 52 + 32 * hf l 44) (k : Nat) (hk : k < hf l 44) (h5 : segOkD (l.drop (52 + 32 * k)) = false) : parE l = 103 := by
  by_cases h6 : fitE (efAt l) = false
  · exact hd_unfit h1 h2 h3 h4 h6
  · have h6 : fitE (efAt l) = true := by simpa using h6
    have h7 : segsOk l (hf l 44) = false := by
      cases h8 : segsOk l (hf l 44) with
      | false => rfl
      | true =>
        exfalso
        unfold segsOk at h8
        rw [List.all_eq_true] at h8
        have h9 := h8 k (List.mem_range.2 hk)
        unfold segOkD at h5
        rw [h9, Bool.true_and, decide_eq_false_iff_not] at h5
        have hm : segN (l.drop (52 + 32 * k)) ∈ (efAt l).segs := List.mem_map.2 ⟨k, List.mem_range.2 hk, rfl⟩
        have := (fit_kind ((fitE_parts h6).2 _ hm)).2.2
        simp only [segN] at this
        omega
    have e : hdE l = 103 := by
      unfold hdE
      rw [if_neg h1, if_neg (by rw [h2]; decide), if_neg (by rw [h3]; decide), if_neg h4, if_pos h7]
    unfold parE; rw [if_neg (by rw [e]; decide), e]
theorem hd_ok {l : L8} (h1 : ¬ l.length < 52) (h2 : (l.take 16 == magicL) = true) (h3 : formOk l = true) (h4 : ¬ l.length < 52 + 32 * hf l 44) (h5 : ∀ k, k < hf l 44 → segOkD (l.drop (52 + 32 * k)) = true) (h6 : fitE (efAt l) = true) : parE l = if (efAt l).segs.any (farS l.length) = true then 104 else 0 := by
  have e : hdE l = 0 := hd_of (by omega) h2 h3 (by omega) (by
    unfold segsOk
    rw [List.all_eq_true]
    intro i hi
    have := h5 i (List.mem_range.1 hi)
    unfold segOkD at this
    rw [Bool.and_eq_true] at this
    exact this.1) h6
  unfold parE
  rw [if_pos e]
end Go.Proofs.Ythhallhmolgpbaa
