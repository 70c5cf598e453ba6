/- What is proved here: a library's file: its header, and where its parts stand, in plain words. -/
import Derived.Test.YtgdflobcbhnimaaGreatPza
import Derived.Test.YtgdflobcbhnimaaGreatPku
namespace Go.Proofs.YtgdflobcbhnimaaGreat
open Go.RowKit
set_option linter.unusedVariables false
set_option linter.unusedSimpArgs false
set_option maxRecDepth 100000
theorem lay_at {l : Lb} (p : Nat) (h : p < 10) : l.lay.at_ p = atN l.sz p := by show (if p < 10 then _ else 0) = _; rw [if_pos h]
theorem lay_sz2 {l : Lb} (p : Nat) (h : p < 10) : l.lay.size p = l.sz p := by show (if p < 10 then _ else 0) = _; rw [if_pos h]
theorem end_at2 (sz : Nat → Nat) (p : Nat) : endN sz p ≤ atN sz p := by rw [atN_end]; unfold up8; omega
/-- Behind the padding a part stands at its place. -/
theorem fil_drop {l : Lb} (h : FitP l) (p : Nat) (hp : p < 10) : (filN l.lay (p + 1)).drop (l.lay.at_ p) = l.lay.part p := by
  have h1 := fil_len h p (by omega)
  have h2 := end_at2 l.sz p
  have h3 := lay_at (l := l) p hp
  show (filN l.lay p ++ (List.replicate (l.lay.at_ p - (filN l.lay p).length) 0 ++ l.lay.part p)).drop (l.lay.at_ p) = _
  rw [← List.append_assoc, List.drop_left']
  rw [List.length_append, List.length_replicate]
  omega
theorem fil_pre (y : Ly) (j : Nat) : ∀ k, ∃ z, filN y (j + k) = filN y j ++ z
  | 0 => ⟨[], by simp⟩
  | k + 1 => by
    obtain ⟨z, hz⟩ := fil_pre y j k
    refine ⟨z ++ (List.replicate (y.at_ (j + k) - (filN y (j + k)).length) 0 ++ y.part (j + k)), ?_⟩
    have e : filN y (j + (k + 1)) = filN y (j + k) ++ (List.replicate (y.at_ (j + k) - (filN y (j + k)).length) 0 ++ y.part (j + k)) := rfl
    rw [e, ← List.append_assoc (filN y j) z, ← hz]
theorem file_len {l : Lb} (h : FitP l) : l.file.length = atN l.sz 9 + l.sz 9 := fil_len h 10 (by decide)
/-- A part stands in the file at its place. -/
theorem file_part {l : Lb} (h : FitP l) (p : Nat) (hp : p < 10) : (l.file.drop (l.lay.at_ p)).take (l.lay.part p).length = l.lay.part p := by
  obtain ⟨z, hz⟩ := fil_pre l.lay (p + 1) (9 - p)
  have e : p + 1 + (9 - p) = 10 := by omega
  rw [e] at hz
  have h1 := fil_len h (p + 1) (by omega)
  have h2 : endN l.sz (p + 1) = atN l.sz p + l.sz p := rfl
  have h3 := lay_at (l := l) p hp
  show ((filN l.lay 10).drop _).take _ = _
  rw [hz, List.drop_append_of_le_length (by omega), fil_drop h p hp, List.take_left']
  rfl
theorem file_code {l : Lb} (h : FitP l) : (l.file.drop (l.lay.at_ 7)).take l.code.length = l.code := file_part h 7 (by decide)
theorem file_data {l : Lb} (h : FitP l) : l.file.drop (l.lay.at_ 9) = l.data := fil_drop h 9 (by decide)
theorem file_head {l : Lb} (h : FitP l) : ∃ z, l.file = E.wrL l.lay.head ++ z := by
  obtain ⟨z, hz⟩ := fil_pre l.lay 1 9
  refine ⟨z, ?_⟩
  have e : filN l.lay 1 = E.wrL l.lay.head := by
    have := fil_drop h 0 (by decide)
    have e0 : l.lay.at_ 0 = 0 := rfl
    rw [e0, List.drop_zero] at this
    exact this
  rw [← e, ← hz]
  rfl
theorem at_le9 (sz : Nat → Nat) : ∀ p, p ≤ 9 → atN sz p + sz p ≤ atN sz 9 + sz 9 := by
  intro p hp
  have h0 := at_mono sz 0; have h1 := at_mono sz 1; have h2 := at_mono sz 2; have h3 := at_mono sz 3; have h4 := at_mono sz 4
  have h5 := at_mono sz 5; have h6 := at_mono sz 6; have h7 := at_mono sz 7; have h8 := at_mono sz 8
  have : p = 0 ∨ p = 1 ∨ p = 2 ∨ p = 3 ∨ p = 4 ∨ p = 5 ∨ p = 6 ∨ p = 7 ∨ p = 8 ∨ p = 9 := by omega
  rcases this with rfl | rfl | rfl | rfl | rfl | rfl | rfl | rfl | rfl | rfl <;> simp only [Nat.reduceAdd] at * <;> omega
theorem seg_near {l : Lb} (h : FitP l) (kind : Int) (a b : Nat) (prot : Int) (al : Nat) (ha : a ≤ b) (hb : b ≤ 9) : E.farS l.file.length (l.lay.seg kind a b prot al) = false := by
  unfold E.farS
  rw [decide_eq_false_iff_not, file_len h]
  show ¬ _ < l.lay.at_ a + (l.lay.at_ b + l.lay.size b - l.lay.at_ a)
  rw [lay_at a (by omega), lay_at b (by omega), lay_sz2 b (by omega)]
  have h1 := at_le9 l.sz b hb
  have h2 : atN l.sz a ≤ atN l.sz 9 + l.sz 9 := by have := at_le9 l.sz a (by omega); omega
  omega
theorem file_near {l : Lb} (h : FitP l) : l.lay.head.segs.any (E.farS l.file.length) = false := by
  have s0 := seg_near h 1 0 7 5 4096 (by decide) (by decide)
  have s2 := seg_near h 2 2 2 3 4 (by decide) (by decide)
  have s3 := seg_near h 3 1 1 1 1 (by decide) (by decide)
  have s1 : E.farS l.file.length l.lay.second = false := seg_near h 1 8 9 3 4096 (by decide) (by decide)
  show (if l.lay.lib.interp = [] then l.lay.segs3 else l.lay.segs3 ++ [l.lay.seg 3 1 1 1 1]).any _ = false
  unfold Ly.segs3
  split <;> simp [s0, s1, s2, s3]
/-- What a reader of headers tells of the file. -/
theorem file_parse {l : Lb} (h : FitP l) : E.parE l.file = 0 ∧ E.parF l.file = l.lay.head := by
  obtain ⟨z, hz⟩ := file_head h
  have hn := file_near h
  rw [hz] at hn
  have hw := E.write_parse (head_fit (lay_ok h)) (segs_bd (lay_ok h)) (by have h1 := (lay_ok h).ad_le 7; have h2 := h.en; show l.lay.ad 7 + l.lay.lib.entry < 4294967296; show l.lay.ad 7 + l.entry < 4294967296; omega) z hn
  rw [← hz] at hw
  exact ⟨hw.1, by unfold E.parF; rw [if_pos hw.1]; exact hw.2⟩
end Go.Proofs.YtgdflobcbhnimaaGreat
