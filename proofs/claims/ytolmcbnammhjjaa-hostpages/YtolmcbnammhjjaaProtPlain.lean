/- What is proved here: Protect. -/
import Derived.Test.YtolmcbnammhjjaaRprot
import Derived.Test.YtolmcbnammhjjaaCopied
import Derived.Test.YtolmcbnammhjjaaParts
import Derived.Lib.OwnKind
import Derived.Laws.OwnMore
import Derived.OneCell
namespace Go.Proofs.Ytolmcbnammhjjaa
open Go.RowKit
set_option linter.unusedVariables false
theorem rowOf_set1 (k : IntKind) : ∀ (xs : List (Nat × Int)) (i : Nat) (h : i < xs.length) (r : Int), (rowOf k xs).set (i * 2 + 1) (.int k r) = rowOf k (xs.set i (xs[i].1, r))
  | x :: xs, 0, h, r => by simp [rowOf]
  | x :: xs, i + 1, h, r => by
    have := rowOf_set1 k xs i (by simpa using h) r
    rw [show (i + 1) * 2 = i * 2 + 1 + 1 by omega]
    simp only [rowOf, List.set_cons_succ, List.getElem_cons_succ]
    rw [this]
def protS (ms : List (Nat × Int)) (f : Nat) (prot : Int) : Nat → List (Nat × Int)
  | 0 => ms
  | k + 1 => (protS ms f prot k).set (f + k) ((ms.getD (f + k) (0, 0)).1, prot)
theorem protS_len (ms : List (Nat × Int)) (f : Nat) (prot : Int) : ∀ k, (protS ms f prot k).length = ms.length
  | 0 => rfl
  | k + 1 => by rw [protS, List.length_set, protS_len ms f prot k]
theorem protS_get (ms : List (Nat × Int)) (f : Nat) (prot : Int) (i : Nat) (h : i < ms.length) : ∀ k, (protS ms f prot k)[i]? = some (if f ≤ i ∧ i < f + k then (ms[i].1, prot) else ms[i])
  | 0 => by rw [protS, if_neg (by omega), List.getElem?_eq_getElem h]
  | k + 1 => by
    rw [protS, List.getElem?_set, protS_len]
    by_cases e : f + k = i
    · subst e
      rw [if_pos rfl, if_pos h, if_pos (by omega), getD_at h]
    · rw [if_neg e, protS_get ms f prot i h k]
      by_cases c : f ≤ i ∧ i < f + k
      · rw [if_pos c, if_pos (by omega)]
      · rw [if_neg c, if_neg (by omega)]
theorem range_iff {ms : List (Nat × Int)} (hs : Srt ms) {page last : Nat} (hl : page ≤ last) (i : Nat) (h : i < ms.length) : ((lo ms page).length ≤ i ∧ i < (lo ms page).length + (mid ms page last).length) ↔ (page ≤ ms[i].1 ∧ ms[i].1 ≤ last) := by
  have e := parts ms hs page last hl
  have hg : ms[i]? = (lo ms page ++ mid ms page last ++ hi ms last)[i]? := congrArg (fun l => l[i]?) e
  rw [List.getElem?_eq_getElem h] at hg
  by_cases c1 : i < (lo ms page).length
  · rw [List.append_assoc, List.getElem?_append_left c1, List.getElem?_eq_getElem c1] at hg
    have hm : (lo ms page)[i] ∈ lo ms page := List.getElem_mem c1
    have := (lo_mem.1 hm).2
    simp only [Option.some.injEq] at hg
    rw [← hg] at this
    constructor
    · intro q; omega
    · intro q; omega
  · by_cases c2 : i < (lo ms page).length + (mid ms page last).length
    · rw [List.getElem?_append_left (by rw [List.length_append]; exact c2), List.getElem?_append_right (by omega), List.getElem?_eq_getElem (by omega)] at hg
      have hm : (mid ms page last)[i - (lo ms page).length]'(by omega) ∈ mid ms page last := List.getElem_mem _
      have := (mid_mem.1 hm).2
      simp only [Option.some.injEq] at hg
      rw [← hg] at this
      constructor
      · intro q; exact this
      · intro q; omega
    · have hl3 := parts_len ms hs page last hl
      rw [List.getElem?_append_right (by rw [List.length_append]; omega), List.getElem?_eq_getElem (by rw [List.length_append]; omega)] at hg
      have hm : (hi ms last)[i - (lo ms page ++ mid ms page last).length]'(by rw [List.length_append]; omega) ∈ hi ms last := List.getElem_mem _
      have := (hi_mem.1 hm).2
      simp only [Option.some.injEq] at hg
      rw [← hg] at this
      constructor
      · intro q; omega
      · intro q; omega
theorem protS_eq {ms : List (Nat × Int)} (hs : Srt ms) {page last : Nat} (prot : Int) (hl : page ≤ last) : protS ms (lo ms page).length prot (mid ms page last).length = protL page last prot ms := by
  apply List.ext_getElem?
  intro i
  by_cases h : i < ms.length
  · rw [protS_get ms _ prot i h, protL, List.getElem?_map, List.getElem?_eq_getElem h]
    simp only [Option.map_some, protX]
    have := range_iff hs hl i h
    by_cases c : page ≤ ms[i].1 ∧ ms[i].1 ≤ last
    · rw [if_pos c, if_pos (this.2 c)]
    · rw [if_neg c, if_neg (fun q => c (this.1 q))]
  · rw [List.getElem?_eq_none (by rw [protS_len]; omega), List.getElem?_eq_none (by rw [protL, List.length_map]; omega)]
end Go.Proofs.Ytolmcbnammhjjaa
