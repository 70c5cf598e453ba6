/- What is proved here: stretches of pages lie in a row, and are sorted. -/
import Derived.Test.YtkpmkgkfpikpfaaGreatSr
import Derived.Test.YtkpmkgkfpikpfaaGreatGp
namespace Go.Proofs.YtkpmkgkfpikpfaaGreat
open Go.RowKit
set_option linter.unusedVariables false
set_option linter.unusedSimpArgs false
set_option maxRecDepth 100000
open Go.Sort Go.Shelf Go.Lib
def stRow (ts : List (Nat × Nat)) : List Value := ts.flatMap encSt
theorem stRow_snoc (ts : List (Nat × Nat)) (x : Nat × Nat) : stRow (ts ++ [x]) = stRow ts ++ [.int .u32 (x.1 : Int), .int .u32 (x.2 : Int)] := by simp [stRow, encSt]
theorem stRow_get : ∀ (l : List (Nat × Nat)) (i j : Nat) (h : i < l.length) (hj : j < 2), (stRow l)[i * 2 + j]? = (encSt l[i])[j]?
  | [], i, j, h, _ => absurd h (Nat.not_lt_zero _)
  | r :: l, 0, j, _, hj => by
    rw [stRow, List.flatMap_cons, List.getElem?_append_left (by show _ < 2; omega), Nat.zero_mul, Nat.zero_add]; rfl
  | r :: l, i + 1, j, h, hj => by
    rw [stRow, List.flatMap_cons, List.getElem?_append_right (by show 2 ≤ _; omega), show (i + 1) * 2 + j - (encSt r).length = i * 2 + j from by show _ - 2 = _; omega]
    exact stRow_get l i j (by simpa using h) hj
/-- Stretches lie in block g. -/
def StAt (w : World) (g : Nat) (ts : List (Nat × Nat)) : Prop := ∀ i (h : i < ts.length), w.cell? ⟨g, i * 2, none⟩ = some (.int .u32 (ts[i].1 : Int)) ∧ w.cell? ⟨g, i * 2 + 1, none⟩ = some (.int .u32 (ts[i].2 : Int))
theorem StAt.block {w w' : World} {g : Nat} {ts : List (Nat × Nat)} (h : StAt w g ts) (hb : w'.heap[g]? = w.heap[g]?) : StAt w' g ts := fun i hi => by
  have e : ∀ j, w'.cell? ⟨g, j, none⟩ = w.cell? ⟨g, j, none⟩ := fun j => by simp only [World.cell?]; rw [hb]
  rw [e, e]; exact h i hi
/-- They rise by their ends. -/
def RiseS (ts : List (Nat × Nat)) : Prop := ∀ i j (hi : i < j) (hj : j < ts.length), (ts[i]'(by omega)).2 ≤ ts[j].2
set_option maxHeartbeats 1000000 in
theorem sortL (g cap base : Nat) (ts : List (Nat × Nat)) (w : World) (hown : w.ownsRow base 120 2 (.slice (some ⟨g, 0, none⟩) ts.length cap) ts.length (stRow ts)) (hl : ts.length ≤ 1000) :
    Calls Tryz.prog 94 #[.slice (some ⟨g, 0, none⟩) ts.length cap, .func (.func 95) #[] #[]] w fun e w' => e = .returned (.tuple #[]) ∧ ∃ ts', ts'.Perm ts ∧ RiseS ts' ∧ StAt w' g ts' ∧ But w.heap.size g w w' := by
  rcases hown.2 with ⟨h, _⟩ | ⟨g', cap', cur, hv, hbg, hg, h1, h2, h3, h4⟩
  · cases h
  · obtain ⟨rfl, rfl⟩ : g = g' ∧ cap = cap' := by simp at hv; exact hv
    have hlt : g < w.heap.size := (Array.getElem?_eq_some_iff.1 hg).1
    have hc : ∀ j, w.cell? ⟨g, j, none⟩ = cur[j]? := fun j => by simp [World.cell?, hg]
    have hz : ∀ j, w.frozen? ⟨g, j, none⟩ = false := fun j => by simp [World.frozen?, hg]
    have hH : HoldsK encSt 2 w g 0 ts.toArray := fun j hj => by
      rw [size_flatK] at hj
      simp only [List.size_toArray] at hj
      rw [get_flatK _ _ _ _ (by simpa using hj)]
      refine ⟨?_, hz _⟩
      rw [hc, Nat.zero_add]
      have e1 : cur[j]? = (stRow ts)[j]? := by
        rw [← h4, List.getElem?_take_of_lt hj, Array.getElem?_toList]
      have hi : j / 2 < ts.length := by omega
      rw [e1, show j = j / 2 * 2 + j % 2 by omega, stRow_get ts (j / 2) (j % 2) hi (by omega)]
      have e2 : (j / 2 * 2 + j % 2) / 2 = j / 2 := by omega
      have e3 : (j / 2 * 2 + j % 2) % 2 = j % 2 := by omega
      rw [e2, e3]
      have e4 : ts.toArray[j / 2]! = ts[j / 2] := by simp [hi]
      rw [e4]
      have : j % 2 = 0 ∨ j % 2 = 1 := by omega
      rcases this with h | h <;> rw [h] <;> rfl
    have K := sort94 g 0 cap ts.toArray w hH hlt (by simp; omega)
    simp only [List.size_toArray] at K
    refine K.mono ?_
    rintro e w' ⟨rfl, d', n, os, hp, hs, rfl⟩
    obtain ⟨p1, p2, p3⟩ := hp
    simp only [List.size_toArray] at p1
    have hpe : d'.toList.Perm ts := by
      have : d'.extract 0 ts.length = d' := by rw [← p1]; simp
      rw [this] at p3
      simpa using p3
    have hln : d'.toList.length = ts.length := by simpa using p1
    have hHd : HoldsK encSt 2 (sortWorldK encSt 2 w g 0 n d' os) g 0 d' := holdsK_grow encSt 2 _ os g 0 d' (by simpa [putRowK, Sort.ahead] using hlt) (holdsK_putRowK encSt 2 _ g 0 ts.toArray d' (holdsK_ahead encSt 2 w n g 0 _ hH) (by simpa using p1))
    refine ⟨rfl, d'.toList, hpe, ?_, ?_, ?_⟩
    · intro i j hij hj
      have hj' : j < ts.length := by omega
      have h := hs i j (Nat.zero_le _) hij hj'
      rw [ltSt] at h
      have ei : d'[i]! = d'.toList[i]'(by omega) := by rw [getElem!_pos d' i (by omega)]; simp
      have ej : d'[j]! = d'.toList[j] := by rw [getElem!_pos d' j (by omega)]; simp
      rw [ei, ej] at h
      simpa using h
    · intro i hi
      have hi' : i < d'.size := by simpa using hi
      have c0 := (hHd.cell (i := i) (c := 0) hi' (by decide)).1
      have c1 := (hHd.cell (i := i) (c := 1) hi' (by decide)).1
      have ei : d'[i]! = d'.toList[i] := by rw [getElem!_pos d' i hi']; simp
      rw [ei] at c0 c1
      rw [Nat.zero_add] at c0 c1
      exact ⟨c0, c1⟩
    · refine ⟨rfl, rfl, rfl, ?_, fun k hk hne => ?_⟩
      · simp [sortWorldK, grow, putRowK, Sort.ahead]
      · simp only [sortWorldK, grow, putRowK, putRow, mapBlock]
        rw [Array.getElem?_append_left (by simpa [Sort.ahead] using hk), Array.getElem?_modify, if_neg (Ne.symm hne)]
        rfl
end Go.Proofs.YtkpmkgkfpikpfaaGreat
