/- What is proved here: fit memories, plainly: what is in them, and that they stay fit when pages or cells go and come. -/
import Derived.Test.YtkpmkgkfpikpfaaGreatFit
import Derived.Test.YtkpmkgkfpikpfaaGreatCopied
import Derived.Test.YtkpmkgkfpikpfaaGreatHeld
import Derived.Test.YtkpmkgkfpikpfaaGreatSmall
namespace Go.Proofs.YtkpmkgkfpikpfaaGreat
open Go.RowKit
set_option maxRecDepth 100000
set_option linter.unusedVariables false
def FitQ (ms cs : List (Nat × Int)) : Prop := ms.length ≤ 64 ∧ cs.length ≤ 65536 ∧ Srt ms ∧ Srt cs ∧ (∀ x ∈ ms, x.1 < 1125899906842624 ∧ 0 ≤ x.2 ∧ x.2 ≤ 7) ∧ (∀ c ∈ cs, c.1 % 8 = 0 ∧ c.2 ≠ 0 ∧ ∃ x ∈ ms, x.1 = c.1 / 16384)
theorem getD_at {xs : List (Nat × Int)} {i : Nat} (h : i < xs.length) : xs.getD i (0, 0) = xs[i] := by simp [List.getD, h]
theorem srt_of {xs : List (Nat × Int)} (h : ∀ i, i < xs.length → (0 < i → (xs.getD (i - 1) (0, 0)).1 < (xs.getD i (0, 0)).1)) : Srt xs := by
 have step : ∀ (d i : Nat) (hj : i + d + 1 < xs.length), (xs.getD i (0, 0)).1 < (xs.getD (i + d + 1) (0, 0)).1 := by
  intro d
  induction d with
  | zero => intro i hj; have := h (i + 1) hj (by omega); simpa using this
  | succ d ih =>
   intro i hj
   have h1 := ih i (by omega)
   have h2 := h (i + (d + 1) + 1) hj (by omega)
   simp only [Nat.add_sub_cancel] at h2
   have e : i + (d + 1) = i + d + 1 := by omega
   rw [e] at h2 ⊢
   omega
 rw [Srt, List.pairwise_iff_getElem]
 intro i j hi hj hij
 have := step (j - i - 1) i (by omega)
 rw [show i + (j - i - 1) + 1 = j by omega, getD_at hi, getD_at hj] at this
 exact this
theorem srt_get {xs : List (Nat × Int)} (h : Srt xs) (i : Nat) (hi : i < xs.length) (h0 : 0 < i) : (xs.getD (i - 1) (0, 0)).1 < (xs.getD i (0, 0)).1 := by
 rw [Srt, List.pairwise_iff_getElem] at h
 rw [getD_at hi, getD_at (show i - 1 < xs.length by omega)]
 exact h (i - 1) i (by omega) hi (by omega)
theorem place_ge {ms : List (Nat × Int)} {p : Nat} : 0 ≤ placeOf ms p ↔ ∃ x ∈ ms, x.1 = p := by
 constructor
 ·intro h
  by_cases hn : ∃ x ∈ ms, x.1 = p
  ·exact hn
  ·rw [placeOf_none ms p (fun j hj e => hn ⟨ms[j], List.getElem_mem hj, e⟩)] at h
   omega
 ·rintro ⟨x, hx, rfl⟩
  unfold placeOf
  split
  ·omega
  ·rename_i h
   rw [List.findIdx?_eq_none_iff] at h
   have := h x hx
   simp at this
theorem fitP_iff {ms cs : List (Nat × Int)} : FitP ms cs ↔ FitQ ms cs := by
 constructor
 ·rintro ⟨h1, h2, h3, h4⟩
  refine ⟨h1, h2, srt_of (fun i hi => (h3 i hi).2.2.2), srt_of (fun i hi => (h4 i hi).2.2.1), ?_, ?_⟩
  ·intro x hx
   obtain ⟨i, hi, rfl⟩ := List.getElem_of_mem hx
   have h := h3 i hi
   rw [MapOk, getD_at hi] at h
   exact ⟨h.1, h.2.1, h.2.2.1⟩
  ·intro c hc
   obtain ⟨i, hi, rfl⟩ := List.getElem_of_mem hc
   have h := h4 i hi
   rw [CellOk, getD_at hi] at h
   exact ⟨h.1, h.2.1, place_ge.1 h.2.2.2⟩
 ·rintro ⟨h1, h2, h3, h4, h5, h6⟩
  refine ⟨h1, h2, fun i hi => ?_, fun i hi => ?_⟩
  ·have h := h5 _ (List.getElem_mem hi)
   exact ⟨by rw [getD_at hi]; exact h.1, by rw [getD_at hi]; exact h.2.1, by rw [getD_at hi]; exact h.2.2, srt_get h3 i hi⟩
  ·have h := h6 _ (List.getElem_mem hi)
   exact ⟨by rw [getD_at hi]; exact h.1, by rw [getD_at hi]; exact h.2.1, srt_get h4 i hi, by rw [getD_at hi]; exact place_ge.2 h.2.2⟩
theorem fitB_q {ms cs : List (Nat × Int)} (h : FitQ ms cs) : fitB ms cs = true := fitB_yes (fitP_iff.2 h)
theorem q_fitB {ms cs : List (Nat × Int)} (h : fitB ms cs = true) : FitQ ms cs := by
 by_cases c : FitP ms cs
 ·exact fitP_iff.1 c
 ·rw [fitB_no c] at h
  cases h
theorem lo_mem {xs : List (Nat × Int)} {a : Nat} {x : Nat × Int} : x ∈ lo xs a ↔ x ∈ xs ∧ x.1 < a := by simp [lo]
theorem hi_mem {xs : List (Nat × Int)} {a : Nat} {x : Nat × Int} : x ∈ hi xs a ↔ x ∈ xs ∧ a < x.1 := by simp [hi]
theorem mid_mem {xs : List (Nat × Int)} {a b : Nat} {x : Nat × Int} : x ∈ mid xs a b ↔ x ∈ xs ∧ a ≤ x.1 ∧ x.1 ≤ b := by simp [mid]
theorem lo_srt {xs : List (Nat × Int)} (h : Srt xs) (a : Nat) : Srt (lo xs a) := List.Pairwise.sublist List.filter_sublist h
theorem hi_srt {xs : List (Nat × Int)} (h : Srt xs) (a : Nat) : Srt (hi xs a) := List.Pairwise.sublist List.filter_sublist h
theorem mid_srt {xs : List (Nat × Int)} (h : Srt xs) (a b : Nat) : Srt (mid xs a b) := List.Pairwise.sublist List.filter_sublist h
theorem lo_len (xs : List (Nat × Int)) (a : Nat) : (lo xs a).length ≤ xs.length := List.length_filter_le _ _
theorem hi_len (xs : List (Nat × Int)) (a : Nat) : (hi xs a).length ≤ xs.length := List.length_filter_le _ _
theorem srt_join {A B : List (Nat × Int)} (hA : Srt A) (hB : Srt B) (h : ∀ a ∈ A, ∀ b ∈ B, a.1 < b.1) : Srt (A ++ B) := List.pairwise_append.2 ⟨hA, hB, h⟩
theorem srt_eq {xs : List (Nat × Int)} (h : Srt xs) {x y : Nat × Int} (hx : x ∈ xs) (hy : y ∈ xs) (e : x.1 = y.1) : x = y := by
 obtain ⟨i, hi, rfl⟩ := List.getElem_of_mem hx
 obtain ⟨j, hj, rfl⟩ := List.getElem_of_mem hy
 rw [Srt, List.pairwise_iff_getElem] at h
 rcases Nat.lt_trichotomy i j with c | c | c
 ·have := h i j hi hj c; omega
 ·subst c; rfl
 ·have := h j i hj hi c; omega
theorem find_mem {xs : List (Nat × Int)} (h : Srt xs) {x : Nat × Int} (hx : x ∈ xs) : xs.find? (fun y => y.1 == x.1) = some x := by
 cases hf : xs.find? (fun y => y.1 == x.1) with
 | none =>
  rw [List.find?_eq_none] at hf
  have := hf x hx
  simp at this
 | some y =>
  have h1 := List.mem_of_find?_eq_some hf
  have h2 := List.find?_some hf
  simp at h2
  rw [srt_eq h h1 hx h2]
theorem find_none {xs : List (Nat × Int)} {p : Nat} (h : ∀ x ∈ xs, x.1 ≠ p) : xs.find? (fun y => y.1 == p) = none := by
 rw [List.find?_eq_none]
 intro x hx
 simpa using h x hx
theorem wordOf_mem {xs : List (Nat × Int)} (h : Srt xs) {x : Nat × Int} (hx : x ∈ xs) : wordOf xs x.1 = x.2 := by rw [wordOf, find_mem h hx]
theorem wordOf_no {xs : List (Nat × Int)} {p : Nat} (h : ∀ x ∈ xs, x.1 ≠ p) : wordOf xs p = 0 := by rw [wordOf, find_none h]
theorem added_mem {page n : Nat} {prot : Int} {x : Nat × Int} : x ∈ added page prot n ↔ ∃ i, i < n ∧ x = (page + i, prot) := by
 simp [added, eq_comm]
theorem added_srt (page n : Nat) (prot : Int) : Srt (added page prot n) := by
 rw [Srt, added, List.pairwise_map]
 exact List.pairwise_lt_range.imp (fun h => by simpa using h)
theorem words_app {A B : List (Nat × Int)} (hA : Words A) (hB : Words B) : Words (A ++ B) := fun x hx => by
 rcases List.mem_append.1 hx with h | h
 ·exact hA x h
 ·exact hB x h
theorem words_lo {A : List (Nat × Int)} (hA : Words A) (a : Nat) : Words (lo A a) := fun x hx => hA x (lo_mem.1 hx).1
theorem words_hi {A : List (Nat × Int)} (hA : Words A) (a : Nat) : Words (hi A a) := fun x hx => hA x (hi_mem.1 hx).1
theorem fit_unmap {ms cs : List (Nat × Int)} (h : FitQ ms cs) (page n : Nat) (hn : n ≠ 0) :
  FitQ (lo ms page ++ hi ms (page + n - 1)) (lo cs (page * 16384) ++ hi cs ((page + n - 1) * 16384 + 16383)) := by
 obtain ⟨h1, h2, h3, h4, h5, h6⟩ := h
 have l1 := parts_len ms h3 page (page + n - 1) (by omega)
 have l2 := parts_len cs h4 (page * 16384) ((page + n - 1) * 16384 + 16383) (by omega)
 refine ⟨by simp; omega, by simp; omega, srt_join (lo_srt h3 _) (hi_srt h3 _) ?_, srt_join (lo_srt h4 _) (hi_srt h4 _) ?_, ?_, ?_⟩
 iterate 2
  ·intro a ha b hb; have := (lo_mem.1 ha).2; have := (hi_mem.1 hb).2; omega
 ·intro x hx
  rcases List.mem_append.1 hx with g | g
  ·exact h5 x (lo_mem.1 g).1
  ·exact h5 x (hi_mem.1 g).1
 ·intro c hc
  rcases List.mem_append.1 hc with g | g
  ·obtain ⟨q1, q2, x, hx, e⟩ := h6 c (lo_mem.1 g).1
   have := (lo_mem.1 g).2
   exact ⟨q1, q2, x, List.mem_append_left _ (lo_mem.2 ⟨hx, by omega⟩), e⟩
  ·obtain ⟨q1, q2, x, hx, e⟩ := h6 c (hi_mem.1 g).1
   have := (hi_mem.1 g).2
   exact ⟨q1, q2, x, List.mem_append_right _ (hi_mem.2 ⟨hx, by omega⟩), e⟩
theorem fit_map {ms cs : List (Nat × Int)} (h : FitQ ms cs) (page n : Nat) (prot : Int) (hp : pagesOk page n = true) (hq : protOk prot = true) (hmid : mid ms page (page + n - 1) = []) (hroom : ms.length + n ≤ 64) :
  FitQ (lo ms page ++ added page prot n ++ hi ms (page + n - 1)) cs := by
 obtain ⟨h1, h2, h3, h4, h5, h6⟩ := h
 have hpp : n ≠ 0 ∧ page + n ≤ 1125899906842624 := by simpa [pagesOk] using hp
 have hqq : 0 ≤ prot ∧ prot ≤ 7 := by simpa [protOk] using hq
 have l1 := parts_len ms h3 page (page + n - 1) (by omega)
 refine ⟨by simp [added]; omega, h2, srt_join (srt_join (lo_srt h3 _) (added_srt _ _ _) ?_) (hi_srt h3 _) ?_, h4, ?_, ?_⟩
 ·intro a ha b hb
  have := (lo_mem.1 ha).2
  obtain ⟨i, hi, rfl⟩ := added_mem.1 hb
  simp; omega
 ·intro a ha b hb
  have hb := (hi_mem.1 hb).2
  rcases List.mem_append.1 ha with g | g
  ·have := (lo_mem.1 g).2; omega
  ·obtain ⟨i, hi, rfl⟩ := added_mem.1 g
   simp; omega
 ·intro x hx
  rcases List.mem_append.1 hx with g | g
  ·rcases List.mem_append.1 g with g | g
   ·exact h5 x (lo_mem.1 g).1
   ·obtain ⟨i, hi, rfl⟩ := added_mem.1 g
    exact ⟨by simp; omega, hqq⟩
  ·exact h5 x (hi_mem.1 g).1
 ·intro c hc
  obtain ⟨q1, q2, x, hx, e⟩ := h6 c hc
  refine ⟨q1, q2, x, ?_, e⟩
  by_cases a1 : x.1 < page
  ·exact List.mem_append_left _ (List.mem_append_left _ (lo_mem.2 ⟨hx, a1⟩))
  ·by_cases a2 : page + n - 1 < x.1
   ·exact List.mem_append_right _ (hi_mem.2 ⟨hx, a2⟩)
   ·have : x ∈ mid ms page (page + n - 1) := mid_mem.2 ⟨hx, by omega, by omega⟩
    rw [hmid] at this
    simp at this
theorem mid_nil {xs : List (Nat × Int)} {a b : Nat} (h : ∀ x ∈ xs, x.1 < a ∨ b < x.1) : mid xs a b = [] := by
 rw [mid, List.filter_eq_nil_iff]
 intro x hx
 have := h x hx
 simp; omega
end Go.Proofs.YtkpmkgkfpikpfaaGreat
