/- What is proved here: what stands ahead of the segments is taken off a file, or it throws. -/
import Derived.Test.YthhallhmolgpbaaSg
import Derived.Test.YthhallhmolgpbaaWn
namespace Go.Proofs.Ythhallhmolgpbaa
open Go.RowKit
set_option linter.unusedVariables false
set_option linter.unusedSimpArgs false
set_option maxRecDepth 100000
/-- A header's block. -/
def B3 (a b c : Value) (n : Nat) (w : World) : Prop := w.heap[n]? = some (.cells #[a, b, c] 26 (0, 0))
theorem B3.lt {a b c : Value} {n : Nat} {w : World} (h : B3 a b c n w) : n < w.heap.size := (Array.getElem?_eq_some_iff.1 h).1
theorem B3.cells {a b c : Value} {n : Nat} {w : World} (h : B3 a b c n w) : w.cell? ⟨n, 0, none⟩ = some a ∧ w.cell? ⟨n, 1, none⟩ = some b ∧ w.cell? ⟨n, 2, none⟩ = some c := by
  have h' : w.heap[n]? = _ := h
  refine ⟨?_, ?_, ?_⟩ <;> simp [World.cell?, h']
theorem B3.frozen {a b c : Value} {n : Nat} {w : World} (h : B3 a b c n w) (k : Nat) : w.frozen? ⟨n, k, none⟩ = false := by
  have h' : w.heap[n]? = _ := h
  simp [World.frozen?, h']
theorem B3.row {a b c : Value} {n : Nat} {w w' : World} {row : Option Nat} (h : B3 a b c n w) (hg : w.grownBy w' row) (hr : some n ≠ row) : B3 a b c n w' := (hg.block n h.lt hr).trans h
theorem B3.keep {a b c : Value} {n : Nat} {w w' : World} (h : B3 a b c n w) (hb : Below w.heap.size w w') : B3 a b c n w' := (hb.block n h.lt).trans h
def st3 (w : World) (n : Nat) (a b c : Value) : World := ((w.setCell ⟨n, 0, none⟩ a).setCell ⟨n, 1, none⟩ b).setCell ⟨n, 2, none⟩ c
theorem st3_in {w : World} {n : Nat} {x y z : Value} (h : B3 x y z n w) (a b c : Value) : B3 a b c n (st3 w n a b c) := by
  unfold B3 st3
  unfold B3 at h
  have h2 := blk_set (blk_set (blk_set h 0 a) 1 b) 2 c
  simp at h2
  exact h2
theorem st3_grown (w : World) (n : Nat) (a b c : Value) : w.grownBy (st3 w n a b c) (some n) := by
  unfold st3
  refine gb_trans ?_ (grown_setk _ n 2 _)
  refine gb_trans ?_ (grown_setk _ n 1 _)
  exact grown_setk w n 0 _
abbrev Z3 (n : Nat) (w : World) : Prop := B3 (.bool false) (.int .u32 0) (.slice none 0 0) n w
theorem skip_ok_at (R : Nat) (l x : L8) (hl : l.length ≤ 1000000) (k : Nat) (w : World) (hk : k + x.length ≤ l.length) (hx : (l.drop k).take x.length = x) (hr : Rd R w (l.drop k)) :
    Calls Try.prog 50 #[.pointer (some ⟨R, 0, none⟩), .string ⟨x.toArray⟩] w fun e w' => e = .returned (.tuple #[]) ∧ Rd R w' (l.drop (k + x.length)) ∧ w.grownBy w' (some R) := by
  have h := skip50_ok R (l.drop k) x hx (by simp; omega) (by simp; omega) w hr
  rw [List.drop_drop] at h
  exact h
theorem skip_no_at (R : Nat) (l x : L8) (hl : l.length ≤ 1000000) (k : Nat) (w : World) (hk : k + x.length ≤ l.length) (hx : (l.drop k).take x.length ≠ x) (hr : Rd R w (l.drop k)) :
    Calls Try.prog 50 #[.pointer (some ⟨R, 0, none⟩), .string ⟨x.toArray⟩] w fun e w' => e = .panicked (thrown 103) ∧ w.grownBy w' (some R) :=
  skip50_no R (l.drop k) x hx (by simp; omega) (by simp; omega) w hr
set_option maxHeartbeats 2000000 in
theorem head36_magic (R : Nat) (l : L8) (hn : l.length = 52) (w : World) (hr : Rd R w l) (hm : (l.take 16 == magicL) = false) :
    Calls Try.prog 36 #[.pointer (some ⟨R, 0, none⟩)] w fun e w' => e = .panicked (thrown 102) ∧ w.grownBy w' (some R) := by
  obtain ⟨W1, hW1⟩ : ∃ W1, w.alloc (.cells #[.bool false, .int .u32 0, .slice none 0 0] 26) = W1 := ⟨_, rfl⟩
  have hz : W1.heap.size = w.heap.size + 1 := by rw [← hW1]; simp
  have hb1 : Below w.heap.size w W1 := by rw [← hW1]; exact (Below.refl _ _).alloc (Nat.le_refl _) _
  have hRlt : R < w.heap.size := World.block_lt_of_cell? _ _ hr.cell
  have hl : l.length ≤ 1000000 := by omega
  have hrr : Rd R W1 l := hr.kept (grown_of (row := none) hb1) (by simp)
  have KT := take35_ok R l 16 (by omega) hl W1 hrr
  have HG1 : Hid (w.grownBy W1 (some R) ∧ Z3 w.heap.size W1) := ⟨grown_of hb1, by rw [← hW1]; exact World.alloc_heap_new w _⟩
  have HRN : Hid (some w.heap.size ≠ some R) := by intro e; injection e with e; omega
  have MY : Hid (∀ w', Calls Try.prog 38 #[.bool true] w' fun e w'' => e = .returned (.tuple #[]) ∧ w'' = w') := must38_ok
  have MN : Hid (∀ w', Calls Try.prog 38 #[.bool false] w' fun e w'' => e = .panicked (thrown 103) ∧ w'' = w') := must38_no
  have KH : Hid (∀ k w', k + 2 ≤ l.length → Rd R w' (l.drop k) → Calls Try.prog 49 #[.pointer (some ⟨R, 0, none⟩)] w' fun e w'' => e = .returned (.int .u32 (hf l k : Int)) ∧ Rd R w'' (l.drop (k + 2)) ∧ w'.grownBy w'' (some R)) := fun k w' hk h => half_at R l hl k w' hk h
  have KWD : Hid (∀ k w', k + 4 ≤ l.length → Rd R w' (l.drop k) → Calls Try.prog 51 #[.pointer (some ⟨R, 0, none⟩)] w' fun e w'' => e = .returned (.int .u32 (wd l k : Int)) ∧ Rd R w'' (l.drop (k + 4)) ∧ w'.grownBy w'' (some R)) := fun k w' hk h => word_at R l hl k w' hk h
  have HL : Hid (l.length = 52) := hn
  clear hb1 hr hrr
  have t0 : ((⟨(l.take 16).toArray⟩ : ByteArray).toList == [127, 69, 76, 70, 1, 2, 1, 0, 0, 0, 0, 0, 0, 0, 0, 0]) = false := by rw [bal]; exact hm
  have t1 : ((⟨(l.take 16).toArray⟩ : ByteArray).toList != [127, 69, 76, 70, 1, 2, 1, 0, 0, 0, 0, 0, 0, 0, 0, 0]) = true := by rw [bal, bne]; rw [show (l.take 16 == [127, 69, 76, 70, 1, 2, 1, 0, 0, 0, 0, 0, 0, 0, 0, 0]) = false from hm]; rfl
  generalize (⟨(l.take 16).toArray⟩ : ByteArray) = X at KT t0 t1
  go_enter Try.func36, Try.ntmps36
  go_wp2_with fail
  refine KT.mono ?_
  rintro e w2 ⟨rfl, hr2, hg2⟩
  clear KT
  have HG2 : Hid (w.grownBy w2 (some R) ∧ Z3 w.heap.size w2) := ⟨gb_trans HG1.out.1 hg2, HG1.out.2.row hg2 HRN.out⟩
  clear hg2
  go_wp2
  exact ⟨rfl, rfl, HG2.out.1⟩
set_option maxHeartbeats 4000000 in
theorem head36_ok (R : Nat) (l : L8) (hn : l.length = 52) (w : World) (hr : Rd R w l) (hm : (l.take 16 == magicL) = true) (hfo : formOk l = true) :
    Calls Try.prog 36 #[.pointer (some ⟨R, 0, none⟩)] w fun e w' => e = .returned (.tuple #[.agg #[.bool (hf l 16 == 3), .int .u32 (wd l 24 : Int), .slice none 0 0], .int .i64 (hf l 44 : Int)]) ∧ w.grownBy w' (some R) := by
  obtain ⟨hK, hE, hC, hN, hD⟩ := form_parts hfo
  obtain ⟨W1, hW1⟩ : ∃ W1, w.alloc (.cells #[.bool false, .int .u32 0, .slice none 0 0] 26) = W1 := ⟨_, rfl⟩
  have hz : W1.heap.size = w.heap.size + 1 := by rw [← hW1]; simp
  have hb1 : Below w.heap.size w W1 := by rw [← hW1]; exact (Below.refl _ _).alloc (Nat.le_refl _) _
  have hRlt : R < w.heap.size := World.block_lt_of_cell? _ _ hr.cell
  have hl : l.length ≤ 1000000 := by omega
  have hrr : Rd R W1 l := hr.kept (grown_of (row := none) hb1) (by simp)
  have KT := take35_ok R l 16 (by omega) hl W1 hrr
  have HG1 : Hid (w.grownBy W1 (some R) ∧ Z3 w.heap.size W1) := ⟨grown_of hb1, by rw [← hW1]; exact World.alloc_heap_new w _⟩
  have HRN : Hid (some w.heap.size ≠ some R) := by intro e; injection e with e; omega
  have MY : Hid (∀ w', Calls Try.prog 38 #[.bool true] w' fun e w'' => e = .returned (.tuple #[]) ∧ w'' = w') := must38_ok
  have MN : Hid (∀ w', Calls Try.prog 38 #[.bool false] w' fun e w'' => e = .panicked (thrown 103) ∧ w'' = w') := must38_no
  have KH : Hid (∀ k w', k + 2 ≤ l.length → Rd R w' (l.drop k) → Calls Try.prog 49 #[.pointer (some ⟨R, 0, none⟩)] w' fun e w'' => e = .returned (.int .u32 (hf l k : Int)) ∧ Rd R w'' (l.drop (k + 2)) ∧ w'.grownBy w'' (some R)) := fun k w' hk h => half_at R l hl k w' hk h
  have KWD : Hid (∀ k w', k + 4 ≤ l.length → Rd R w' (l.drop k) → Calls Try.prog 51 #[.pointer (some ⟨R, 0, none⟩)] w' fun e w'' => e = .returned (.int .u32 (wd l k : Int)) ∧ Rd R w'' (l.drop (k + 4)) ∧ w'.grownBy w'' (some R)) := fun k w' hk h => word_at R l hl k w' hk h
  have HL : Hid (l.length = 52) := hn
  clear hb1 hr hrr
  have t0 : ((⟨(l.take 16).toArray⟩ : ByteArray).toList == [127, 69, 76, 70, 1, 2, 1, 0, 0, 0, 0, 0, 0, 0, 0, 0]) = true := by rw [bal]; exact hm
  have t1 : ((⟨(l.take 16).toArray⟩ : ByteArray).toList != [127, 69, 76, 70, 1, 2, 1, 0, 0, 0, 0, 0, 0, 0, 0, 0]) = false := by rw [bal, bne]; rw [show (l.take 16 == [127, 69, 76, 70, 1, 2, 1, 0, 0, 0, 0, 0, 0, 0, 0, 0]) = true from hm]; rfl
  generalize (⟨(l.take 16).toArray⟩ : ByteArray) = X at KT t0 t1
  have hki : ((hf l 16 : Int) == 2) = true ∨ (((hf l 16 : Int) == 2) = false ∧ ((hf l 16 : Int) == 3) = true) := by
    rcases hK with h | h
    · exact Or.inl (by rw [h]; rfl)
    · exact Or.inr ⟨by rw [h]; rfl, by rw [h]; rfl⟩
  have HV : Hid (Ending.returned (.tuple #[.agg #[.bool ((hf l 16 : Int) == 3), .int .u32 (wd l 24 : Int), .slice none 0 0], .int .i64 (hf l 44 : Int)]) = .returned (.tuple #[.agg #[.bool (hf l 16 == 3), .int .u32 (wd l 24 : Int), .slice none 0 0], .int .i64 (hf l 44 : Int)])) := by
    show _ = _
    rw [show ((hf l 16 : Int) == 3) = (hf l 16 == 3) from by rw [Bool.eq_iff_iff]; simp only [beq_iff_eq]; omega]
  have iN : (hf l 44 : Int) ≤ 16 := by omega
  have wN : wrap64 (hf l 44 : Int) = (hf l 44 : Int) := by unfold wrap64; omega
  clear hK hfo hm
  rcases hki with hki | ⟨hkj, hki⟩
  · go_enter Try.func36, Try.ntmps36
    go_wp2_with fail
    refine KT.mono ?_
    rintro e w2 ⟨rfl, hr2, hg2⟩
    clear KT
    have HG2 : Hid (w.grownBy w2 (some R) ∧ Z3 w.heap.size w2) := ⟨gb_trans HG1.out.1 hg2, HG1.out.2.row hg2 HRN.out⟩
    clear hg2
    have KK := KH.out 16 w2 (by rw [HL.out]; decide) hr2
    go_wp2_with fail
    refine KK.mono ?_
    rintro e w3 ⟨rfl, hr3, hg3⟩
    clear KK
    have HG3 : Hid (w.grownBy w3 (some R) ∧ Z3 w.heap.size w3) := ⟨gb_trans HG2.out.1 hg3, HG2.out.2.row hg3 HRN.out⟩
    clear hg3
    go_wp2_with fail
    refine (MY.out w3).mono ?_
    rintro e w3' ⟨rfl, rfl⟩
    go_wp2_with fail
    refine (atEntry42 w3').mono ?_
    rintro e w4 ⟨rfl, hb4⟩
    have hr4 := hr3.kept (grown_of (row := none) hb4) (by simp)
    have HG4 : Hid (w.grownBy w4 (some R) ∧ Z3 w.heap.size w4) := ⟨gb_trans HG3.out.1 (grown_of hb4), HG3.out.2.keep hb4⟩
    clear hb4
    have KK := skip_ok_at R l entL (by rw [HL.out]; decide) 18 w4 (by rw [HL.out]; decide) hE hr4
    go_wp2_with fail
    refine KK.mono ?_
    rintro e w5 ⟨rfl, hr5, hg5⟩
    clear KK
    have HG5 : Hid (w.grownBy w5 (some R) ∧ Z3 w.heap.size w5) := ⟨gb_trans HG4.out.1 hg5, HG4.out.2.row hg5 HRN.out⟩
    clear hg5
    have KK := KWD.out 24 w5 (by rw [HL.out]; decide) hr5
    go_wp2_with fail
    refine KK.mono ?_
    rintro e w6 ⟨rfl, hr6, hg6⟩
    clear KK
    have HG6 : Hid (w.grownBy w6 (some R) ∧ Z3 w.heap.size w6) := ⟨gb_trans HG5.out.1 hg6, HG5.out.2.row hg6 HRN.out⟩
    clear hg6
    go_wp2_with fail
    refine (atCount44 w6).mono ?_
    rintro e w7 ⟨rfl, hb7⟩
    have hr7 := hr6.kept (grown_of (row := none) hb7) (by simp)
    have HG7 : Hid (w.grownBy w7 (some R) ∧ Z3 w.heap.size w7) := ⟨gb_trans HG6.out.1 (grown_of hb7), HG6.out.2.keep hb7⟩
    clear hb7
    have KK := skip_ok_at R l cntL (by rw [HL.out]; decide) 28 w7 (by rw [HL.out]; decide) hC hr7
    go_wp2_with fail
    refine KK.mono ?_
    rintro e w8 ⟨rfl, hr8, hg8⟩
    clear KK
    have HG8 : Hid (w.grownBy w8 (some R) ∧ Z3 w.heap.size w8) := ⟨gb_trans HG7.out.1 hg8, HG7.out.2.row hg8 HRN.out⟩
    clear hg8
    have KK := KH.out 44 w8 (by rw [HL.out]; decide) hr8
    go_wp2_with fail
    refine KK.mono ?_
    rintro e w9 ⟨rfl, hr9, hg9⟩
    clear KK
    have HG9 : Hid (w.grownBy w9 (some R) ∧ Z3 w.heap.size w9) := ⟨gb_trans HG8.out.1 hg9, HG8.out.2.row hg9 HRN.out⟩
    clear hg9
    go_wp2_with fail
    refine (MY.out w9).mono ?_
    rintro e w9' ⟨rfl, rfl⟩
    go_wp2_with fail
    refine (atEnd45 w9').mono ?_
    rintro e w10 ⟨rfl, hb10⟩
    have hr10 := hr9.kept (grown_of (row := none) hb10) (by simp)
    have HG10 : Hid (w.grownBy w10 (some R) ∧ Z3 w.heap.size w10) := ⟨gb_trans HG9.out.1 (grown_of hb10), HG9.out.2.keep hb10⟩
    clear hb10
    have KK := skip_ok_at R l endL (by rw [HL.out]; decide) 46 w10 (by rw [HL.out]; decide) hD hr10
    go_wp2_with fail
    refine KK.mono ?_
    rintro e w11 ⟨rfl, hr11, hg11⟩
    clear KK
    have HG11 : Hid (w.grownBy w11 (some R) ∧ Z3 w.heap.size w11) := ⟨gb_trans HG10.out.1 hg11, HG10.out.2.row hg11 HRN.out⟩
    clear hg11
    have z2 := HG11.out.2
    obtain ⟨q0, q1, q2⟩ := z2.cells
    have f0 := z2.frozen 0
    have f1 := z2.frozen 1
    have f2 := z2.frozen 2
    obtain ⟨W8, hW8⟩ : ∃ z, ((w11.setCell ⟨w.heap.size, 0, none⟩ (.bool ((hf l 16 : Int) == 3))).setCell ⟨w.heap.size, 1, none⟩ (.int .u32 (wd l 24 : Int))).setCell ⟨w.heap.size, 2, none⟩ (.slice none 0 0) = z := ⟨_, rfl⟩
    have i8 := st3_in z2 (.bool ((hf l 16 : Int) == 3)) (.int .u32 (wd l 24 : Int)) (.slice none 0 0)
    have g8 := st3_grown w11 w.heap.size (.bool ((hf l 16 : Int) == 3)) (.int .u32 (wd l 24 : Int)) (.slice none 0 0)
    rw [show st3 w11 w.heap.size (.bool ((hf l 16 : Int) == 3)) (.int .u32 (wd l 24 : Int)) (.slice none 0 0) = W8 from hW8] at i8 g8
    have HE : Hid (w.grownBy W8 (some R)) := gb_out HG11.out.1 g8 (Nat.le_refl _)
    obtain ⟨s0, s1, s2⟩ := i8.cells
    clear z2 g8 i8
    go_wp2
    refine bodyPost_ret (v := .tuple #[.agg #[.bool ((hf l 16 : Int) == 3), .int .u32 (wd l 24 : Int), .slice none 0 0], .int .i64 (hf l 44 : Int)]) ?_ rfl ⟨HV.out, HE.out⟩
    rw [results_cell_tmp rfl]; simp [go_sem, s0, s1, s2]
  · rw [hki] at HV
    go_enter Try.func36, Try.ntmps36
    go_wp2_with fail
    refine KT.mono ?_
    rintro e w2 ⟨rfl, hr2, hg2⟩
    clear KT
    have HG2 : Hid (w.grownBy w2 (some R) ∧ Z3 w.heap.size w2) := ⟨gb_trans HG1.out.1 hg2, HG1.out.2.row hg2 HRN.out⟩
    clear hg2
    have KK := KH.out 16 w2 (by rw [HL.out]; decide) hr2
    go_wp2_with fail
    refine KK.mono ?_
    rintro e w3 ⟨rfl, hr3, hg3⟩
    clear KK
    have HG3 : Hid (w.grownBy w3 (some R) ∧ Z3 w.heap.size w3) := ⟨gb_trans HG2.out.1 hg3, HG2.out.2.row hg3 HRN.out⟩
    clear hg3
    go_wp2_with fail
    refine (MY.out w3).mono ?_
    rintro e w3' ⟨rfl, rfl⟩
    go_wp2_with fail
    refine (atEntry42 w3').mono ?_
    rintro e w4 ⟨rfl, hb4⟩
    have hr4 := hr3.kept (grown_of (row := none) hb4) (by simp)
    have HG4 : Hid (w.grownBy w4 (some R) ∧ Z3 w.heap.size w4) := ⟨gb_trans HG3.out.1 (grown_of hb4), HG3.out.2.keep hb4⟩
    clear hb4
    have KK := skip_ok_at R l entL (by rw [HL.out]; decide) 18 w4 (by rw [HL.out]; decide) hE hr4
    go_wp2_with fail
    refine KK.mono ?_
    rintro e w5 ⟨rfl, hr5, hg5⟩
    clear KK
    have HG5 : Hid (w.grownBy w5 (some R) ∧ Z3 w.heap.size w5) := ⟨gb_trans HG4.out.1 hg5, HG4.out.2.row hg5 HRN.out⟩
    clear hg5
    have KK := KWD.out 24 w5 (by rw [HL.out]; decide) hr5
    go_wp2_with fail
    refine KK.mono ?_
    rintro e w6 ⟨rfl, hr6, hg6⟩
    clear KK
    have HG6 : Hid (w.grownBy w6 (some R) ∧ Z3 w.heap.size w6) := ⟨gb_trans HG5.out.1 hg6, HG5.out.2.row hg6 HRN.out⟩
    clear hg6
    go_wp2_with fail
    refine (atCount44 w6).mono ?_
    rintro e w7 ⟨rfl, hb7⟩
    have hr7 := hr6.kept (grown_of (row := none) hb7) (by simp)
    have HG7 : Hid (w.grownBy w7 (some R) ∧ Z3 w.heap.size w7) := ⟨gb_trans HG6.out.1 (grown_of hb7), HG6.out.2.keep hb7⟩
    clear hb7
    have KK := skip_ok_at R l cntL (by rw [HL.out]; decide) 28 w7 (by rw [HL.out]; decide) hC hr7
    go_wp2_with fail
    refine KK.mono ?_
    rintro e w8 ⟨rfl, hr8, hg8⟩
    clear KK
    have HG8 : Hid (w.grownBy w8 (some R) ∧ Z3 w.heap.size w8) := ⟨gb_trans HG7.out.1 hg8, HG7.out.2.row hg8 HRN.out⟩
    clear hg8
    have KK := KH.out 44 w8 (by rw [HL.out]; decide) hr8
    go_wp2_with fail
    refine KK.mono ?_
    rintro e w9 ⟨rfl, hr9, hg9⟩
    clear KK
    have HG9 : Hid (w.grownBy w9 (some R) ∧ Z3 w.heap.size w9) := ⟨gb_trans HG8.out.1 hg9, HG8.out.2.row hg9 HRN.out⟩
    clear hg9
    go_wp2_with fail
    refine (MY.out w9).mono ?_
    rintro e w9' ⟨rfl, rfl⟩
    go_wp2_with fail
    refine (atEnd45 w9').mono ?_
    rintro e w10 ⟨rfl, hb10⟩
    have hr10 := hr9.kept (grown_of (row := none) hb10) (by simp)
    have HG10 : Hid (w.grownBy w10 (some R) ∧ Z3 w.heap.size w10) := ⟨gb_trans HG9.out.1 (grown_of hb10), HG9.out.2.keep hb10⟩
    clear hb10
    have KK := skip_ok_at R l endL (by rw [HL.out]; decide) 46 w10 (by rw [HL.out]; decide) hD hr10
    go_wp2_with fail
    refine KK.mono ?_
    rintro e w11 ⟨rfl, hr11, hg11⟩
    clear KK
    have HG11 : Hid (w.grownBy w11 (some R) ∧ Z3 w.heap.size w11) := ⟨gb_trans HG10.out.1 hg11, HG10.out.2.row hg11 HRN.out⟩
    clear hg11
    have z2 := HG11.out.2
    obtain ⟨q0, q1, q2⟩ := z2.cells
    have f0 := z2.frozen 0
    have f1 := z2.frozen 1
    have f2 := z2.frozen 2
    obtain ⟨W8, hW8⟩ : ∃ z, ((w11.setCell ⟨w.heap.size, 0, none⟩ (.bool true)).setCell ⟨w.heap.size, 1, none⟩ (.int .u32 (wd l 24 : Int))).setCell ⟨w.heap.size, 2, none⟩ (.slice none 0 0) = z := ⟨_, rfl⟩
    have i8 := st3_in z2 (.bool true) (.int .u32 (wd l 24 : Int)) (.slice none 0 0)
    have g8 := st3_grown w11 w.heap.size (.bool true) (.int .u32 (wd l 24 : Int)) (.slice none 0 0)
    rw [show st3 w11 w.heap.size (.bool true) (.int .u32 (wd l 24 : Int)) (.slice none 0 0) = W8 from hW8] at i8 g8
    have HE : Hid (w.grownBy W8 (some R)) := gb_out HG11.out.1 g8 (Nat.le_refl _)
    obtain ⟨s0, s1, s2⟩ := i8.cells
    clear z2 g8 i8
    go_wp2
    refine bodyPost_ret (v := .tuple #[.agg #[.bool true, .int .u32 (wd l 24 : Int), .slice none 0 0], .int .i64 (hf l 44 : Int)]) ?_ rfl ⟨HV.out, HE.out⟩
    rw [results_cell_tmp rfl]; simp [go_sem, s0, s1, s2]
set_option maxHeartbeats 4000000 in
theorem head36_form (R : Nat) (l : L8) (hn : l.length = 52) (w : World) (hr : Rd R w l) (hm : (l.take 16 == magicL) = true) (hfo : formOk l = false) :
    Calls Try.prog 36 #[.pointer (some ⟨R, 0, none⟩)] w fun e w' => e = .panicked (thrown 103) ∧ w.grownBy w' (some R) := by
  obtain ⟨W1, hW1⟩ : ∃ W1, w.alloc (.cells #[.bool false, .int .u32 0, .slice none 0 0] 26) = W1 := ⟨_, rfl⟩
  have hz : W1.heap.size = w.heap.size + 1 := by rw [← hW1]; simp
  have hb1 : Below w.heap.size w W1 := by rw [← hW1]; exact (Below.refl _ _).alloc (Nat.le_refl _) _
  have hRlt : R < w.heap.size := World.block_lt_of_cell? _ _ hr.cell
  have hl : l.length ≤ 1000000 := by omega
  have hrr : Rd R W1 l := hr.kept (grown_of (row := none) hb1) (by simp)
  have KT := take35_ok R l 16 (by omega) hl W1 hrr
  have HG1 : Hid (w.grownBy W1 (some R) ∧ Z3 w.heap.size W1) := ⟨grown_of hb1, by rw [← hW1]; exact World.alloc_heap_new w _⟩
  have HRN : Hid (some w.heap.size ≠ some R) := by intro e; injection e with e; omega
  have MY : Hid (∀ w', Calls Try.prog 38 #[.bool true] w' fun e w'' => e = .returned (.tuple #[]) ∧ w'' = w') := must38_ok
  have MN : Hid (∀ w', Calls Try.prog 38 #[.bool false] w' fun e w'' => e = .panicked (thrown 103) ∧ w'' = w') := must38_no
  have KH : Hid (∀ k w', k + 2 ≤ l.length → Rd R w' (l.drop k) → Calls Try.prog 49 #[.pointer (some ⟨R, 0, none⟩)] w' fun e w'' => e = .returned (.int .u32 (hf l k : Int)) ∧ Rd R w'' (l.drop (k + 2)) ∧ w'.grownBy w'' (some R)) := fun k w' hk h => half_at R l hl k w' hk h
  have KWD : Hid (∀ k w', k + 4 ≤ l.length → Rd R w' (l.drop k) → Calls Try.prog 51 #[.pointer (some ⟨R, 0, none⟩)] w' fun e w'' => e = .returned (.int .u32 (wd l k : Int)) ∧ Rd R w'' (l.drop (k + 4)) ∧ w'.grownBy w'' (some R)) := fun k w' hk h => word_at R l hl k w' hk h
  have HL : Hid (l.length = 52) := hn
  clear hb1 hr hrr
  have t0 : ((⟨(l.take 16).toArray⟩ : ByteArray).toList == [127, 69, 76, 70, 1, 2, 1, 0, 0, 0, 0, 0, 0, 0, 0, 0]) = true := by rw [bal]; exact hm
  have t1 : ((⟨(l.take 16).toArray⟩ : ByteArray).toList != [127, 69, 76, 70, 1, 2, 1, 0, 0, 0, 0, 0, 0, 0, 0, 0]) = false := by rw [bal, bne]; rw [show (l.take 16 == [127, 69, 76, 70, 1, 2, 1, 0, 0, 0, 0, 0, 0, 0, 0, 0]) = true from hm]; rfl
  generalize (⟨(l.take 16).toArray⟩ : ByteArray) = X at KT t0 t1
  by_cases hK : hf l 16 = 2 ∨ hf l 16 = 3
  · have hki : ((hf l 16 : Int) == 2) = true ∨ (((hf l 16 : Int) == 2) = false ∧ ((hf l 16 : Int) == 3) = true) := by
      rcases hK with h | h
      · exact Or.inl (by rw [h]; rfl)
      · exact Or.inr ⟨by rw [h]; rfl, by rw [h]; rfl⟩
    by_cases hE : (l.drop 18).take entL.length = entL
    · by_cases hC : (l.drop 28).take cntL.length = cntL
      · by_cases hN : hf l 44 ≤ 16
        · have hD : (l.drop 46).take endL.length ≠ endL := by
            intro hD
            rw [form_of hK hE hC hN hD] at hfo
            cases hfo
          have iN : (hf l 44 : Int) ≤ 16 := by omega
          clear hK hfo hm
          rcases hki with hki | ⟨hkj, hki⟩
          · go_enter Try.func36, Try.ntmps36
            go_wp2_with fail
            refine KT.mono ?_
            rintro e w2 ⟨rfl, hr2, hg2⟩
            clear KT
            have HG2 : Hid (w.grownBy w2 (some R) ∧ Z3 w.heap.size w2) := ⟨gb_trans HG1.out.1 hg2, HG1.out.2.row hg2 HRN.out⟩
            clear hg2
            have KK := KH.out 16 w2 (by rw [HL.out]; decide) hr2
            go_wp2_with fail
            refine KK.mono ?_
            rintro e w3 ⟨rfl, hr3, hg3⟩
            clear KK
            have HG3 : Hid (w.grownBy w3 (some R) ∧ Z3 w.heap.size w3) := ⟨gb_trans HG2.out.1 hg3, HG2.out.2.row hg3 HRN.out⟩
            clear hg3
            go_wp2_with fail
            refine (MY.out w3).mono ?_
            rintro e w3' ⟨rfl, rfl⟩
            go_wp2_with fail
            refine (atEntry42 w3').mono ?_
            rintro e w4 ⟨rfl, hb4⟩
            have hr4 := hr3.kept (grown_of (row := none) hb4) (by simp)
            have HG4 : Hid (w.grownBy w4 (some R) ∧ Z3 w.heap.size w4) := ⟨gb_trans HG3.out.1 (grown_of hb4), HG3.out.2.keep hb4⟩
            clear hb4
            have KK := skip_ok_at R l entL (by rw [HL.out]; decide) 18 w4 (by rw [HL.out]; decide) hE hr4
            go_wp2_with fail
            refine KK.mono ?_
            rintro e w5 ⟨rfl, hr5, hg5⟩
            clear KK
            have HG5 : Hid (w.grownBy w5 (some R) ∧ Z3 w.heap.size w5) := ⟨gb_trans HG4.out.1 hg5, HG4.out.2.row hg5 HRN.out⟩
            clear hg5
            have KK := KWD.out 24 w5 (by rw [HL.out]; decide) hr5
            go_wp2_with fail
            refine KK.mono ?_
            rintro e w6 ⟨rfl, hr6, hg6⟩
            clear KK
            have HG6 : Hid (w.grownBy w6 (some R) ∧ Z3 w.heap.size w6) := ⟨gb_trans HG5.out.1 hg6, HG5.out.2.row hg6 HRN.out⟩
            clear hg6
            go_wp2_with fail
            refine (atCount44 w6).mono ?_
            rintro e w7 ⟨rfl, hb7⟩
            have hr7 := hr6.kept (grown_of (row := none) hb7) (by simp)
            have HG7 : Hid (w.grownBy w7 (some R) ∧ Z3 w.heap.size w7) := ⟨gb_trans HG6.out.1 (grown_of hb7), HG6.out.2.keep hb7⟩
            clear hb7
            have KK := skip_ok_at R l cntL (by rw [HL.out]; decide) 28 w7 (by rw [HL.out]; decide) hC hr7
            go_wp2_with fail
            refine KK.mono ?_
            rintro e w8 ⟨rfl, hr8, hg8⟩
            clear KK
            have HG8 : Hid (w.grownBy w8 (some R) ∧ Z3 w.heap.size w8) := ⟨gb_trans HG7.out.1 hg8, HG7.out.2.row hg8 HRN.out⟩
            clear hg8
            have KK := KH.out 44 w8 (by rw [HL.out]; decide) hr8
            go_wp2_with fail
            refine KK.mono ?_
            rintro e w9 ⟨rfl, hr9, hg9⟩
            clear KK
            have HG9 : Hid (w.grownBy w9 (some R) ∧ Z3 w.heap.size w9) := ⟨gb_trans HG8.out.1 hg9, HG8.out.2.row hg9 HRN.out⟩
            clear hg9
            go_wp2_with fail
            refine (MY.out w9).mono ?_
            rintro e w9' ⟨rfl, rfl⟩
            go_wp2_with fail
            refine (atEnd45 w9').mono ?_
            rintro e w10 ⟨rfl, hb10⟩
            have hr10 := hr9.kept (grown_of (row := none) hb10) (by simp)
            have HG10 : Hid (w.grownBy w10 (some R) ∧ Z3 w.heap.size w10) := ⟨gb_trans HG9.out.1 (grown_of hb10), HG9.out.2.keep hb10⟩
            clear hb10
            go_wp2_with fail
            refine (skip_no_at R l endL (by rw [HL.out]; decide) 46 w10 (by rw [HL.out]; decide) hD hr10).mono ?_
            rintro e wq ⟨rfl, hgq⟩
            exact ⟨rfl, rfl, gb_trans HG10.out.1 hgq⟩
          · go_enter Try.func36, Try.ntmps36
            go_wp2_with fail
            refine KT.mono ?_
            rintro e w2 ⟨rfl, hr2, hg2⟩
            clear KT
            have HG2 : Hid (w.grownBy w2 (some R) ∧ Z3 w.heap.size w2) := ⟨gb_trans HG1.out.1 hg2, HG1.out.2.row hg2 HRN.out⟩
            clear hg2
            have KK := KH.out 16 w2 (by rw [HL.out]; decide) hr2
            go_wp2_with fail
            refine KK.mono ?_
            rintro e w3 ⟨rfl, hr3, hg3⟩
            clear KK
            have HG3 : Hid (w.grownBy w3 (some R) ∧ Z3 w.heap.size w3) := ⟨gb_trans HG2.out.1 hg3, HG2.out.2.row hg3 HRN.out⟩
            clear hg3
            go_wp2_with fail
            refine (MY.out w3).mono ?_
            rintro e w3' ⟨rfl, rfl⟩
            go_wp2_with fail
            refine (atEntry42 w3').mono ?_
            rintro e w4 ⟨rfl, hb4⟩
            have hr4 := hr3.kept (grown_of (row := none) hb4) (by simp)
            have HG4 : Hid (w.grownBy w4 (some R) ∧ Z3 w.heap.size w4) := ⟨gb_trans HG3.out.1 (grown_of hb4), HG3.out.2.keep hb4⟩
            clear hb4
            have KK := skip_ok_at R l entL (by rw [HL.out]; decide) 18 w4 (by rw [HL.out]; decide) hE hr4
            go_wp2_with fail
            refine KK.mono ?_
            rintro e w5 ⟨rfl, hr5, hg5⟩
            clear KK
            have HG5 : Hid (w.grownBy w5 (some R) ∧ Z3 w.heap.size w5) := ⟨gb_trans HG4.out.1 hg5, HG4.out.2.row hg5 HRN.out⟩
            clear hg5
            have KK := KWD.out 24 w5 (by rw [HL.out]; decide) hr5
            go_wp2_with fail
            refine KK.mono ?_
            rintro e w6 ⟨rfl, hr6, hg6⟩
            clear KK
            have HG6 : Hid (w.grownBy w6 (some R) ∧ Z3 w.heap.size w6) := ⟨gb_trans HG5.out.1 hg6, HG5.out.2.row hg6 HRN.out⟩
            clear hg6
            go_wp2_with fail
            refine (atCount44 w6).mono ?_
            rintro e w7 ⟨rfl, hb7⟩
            have hr7 := hr6.kept (grown_of (row := none) hb7) (by simp)
            have HG7 : Hid (w.grownBy w7 (some R) ∧ Z3 w.heap.size w7) := ⟨gb_trans HG6.out.1 (grown_of hb7), HG6.out.2.keep hb7⟩
            clear hb7
            have KK := skip_ok_at R l cntL (by rw [HL.out]; decide) 28 w7 (by rw [HL.out]; decide) hC hr7
            go_wp2_with fail
            refine KK.mono ?_
            rintro e w8 ⟨rfl, hr8, hg8⟩
            clear KK
            have HG8 : Hid (w.grownBy w8 (some R) ∧ Z3 w.heap.size w8) := ⟨gb_trans HG7.out.1 hg8, HG7.out.2.row hg8 HRN.out⟩
            clear hg8
            have KK := KH.out 44 w8 (by rw [HL.out]; decide) hr8
            go_wp2_with fail
            refine KK.mono ?_
            rintro e w9 ⟨rfl, hr9, hg9⟩
            clear KK
            have HG9 : Hid (w.grownBy w9 (some R) ∧ Z3 w.heap.size w9) := ⟨gb_trans HG8.out.1 hg9, HG8.out.2.row hg9 HRN.out⟩
            clear hg9
            go_wp2_with fail
            refine (MY.out w9).mono ?_
            rintro e w9' ⟨rfl, rfl⟩
            go_wp2_with fail
            refine (atEnd45 w9').mono ?_
            rintro e w10 ⟨rfl, hb10⟩
            have hr10 := hr9.kept (grown_of (row := none) hb10) (by simp)
            have HG10 : Hid (w.grownBy w10 (some R) ∧ Z3 w.heap.size w10) := ⟨gb_trans HG9.out.1 (grown_of hb10), HG9.out.2.keep hb10⟩
            clear hb10
            go_wp2_with fail
            refine (skip_no_at R l endL (by rw [HL.out]; decide) 46 w10 (by rw [HL.out]; decide) hD hr10).mono ?_
            rintro e wq ⟨rfl, hgq⟩
            exact ⟨rfl, rfl, gb_trans HG10.out.1 hgq⟩
        · have iN : ¬ (hf l 44 : Int) ≤ 16 := by omega
          have dN := decide_eq_false iN
          clear hK hfo hm
          rcases hki with hki | ⟨hkj, hki⟩
          · go_enter Try.func36, Try.ntmps36
            go_wp2_with fail
            refine KT.mono ?_
            rintro e w2 ⟨rfl, hr2, hg2⟩
            clear KT
            have HG2 : Hid (w.grownBy w2 (some R) ∧ Z3 w.heap.size w2) := ⟨gb_trans HG1.out.1 hg2, HG1.out.2.row hg2 HRN.out⟩
            clear hg2
            have KK := KH.out 16 w2 (by rw [HL.out]; decide) hr2
            go_wp2_with fail
            refine KK.mono ?_
            rintro e w3 ⟨rfl, hr3, hg3⟩
            clear KK
            have HG3 : Hid (w.grownBy w3 (some R) ∧ Z3 w.heap.size w3) := ⟨gb_trans HG2.out.1 hg3, HG2.out.2.row hg3 HRN.out⟩
            clear hg3
            go_wp2_with fail
            refine (MY.out w3).mono ?_
            rintro e w3' ⟨rfl, rfl⟩
            go_wp2_with fail
            refine (atEntry42 w3').mono ?_
            rintro e w4 ⟨rfl, hb4⟩
            have hr4 := hr3.kept (grown_of (row := none) hb4) (by simp)
            have HG4 : Hid (w.grownBy w4 (some R) ∧ Z3 w.heap.size w4) := ⟨gb_trans HG3.out.1 (grown_of hb4), HG3.out.2.keep hb4⟩
            clear hb4
            have KK := skip_ok_at R l entL (by rw [HL.out]; decide) 18 w4 (by rw [HL.out]; decide) hE hr4
            go_wp2_with fail
            refine KK.mono ?_
            rintro e w5 ⟨rfl, hr5, hg5⟩
            clear KK
            have HG5 : Hid (w.grownBy w5 (some R) ∧ Z3 w.heap.size w5) := ⟨gb_trans HG4.out.1 hg5, HG4.out.2.row hg5 HRN.out⟩
            clear hg5
            have KK := KWD.out 24 w5 (by rw [HL.out]; decide) hr5
            go_wp2_with fail
            refine KK.mono ?_
            rintro e w6 ⟨rfl, hr6, hg6⟩
            clear KK
            have HG6 : Hid (w.grownBy w6 (some R) ∧ Z3 w.heap.size w6) := ⟨gb_trans HG5.out.1 hg6, HG5.out.2.row hg6 HRN.out⟩
            clear hg6
            go_wp2_with fail
            refine (atCount44 w6).mono ?_
            rintro e w7 ⟨rfl, hb7⟩
            have hr7 := hr6.kept (grown_of (row := none) hb7) (by simp)
            have HG7 : Hid (w.grownBy w7 (some R) ∧ Z3 w.heap.size w7) := ⟨gb_trans HG6.out.1 (grown_of hb7), HG6.out.2.keep hb7⟩
            clear hb7
            have KK := skip_ok_at R l cntL (by rw [HL.out]; decide) 28 w7 (by rw [HL.out]; decide) hC hr7
            go_wp2_with fail
            refine KK.mono ?_
            rintro e w8 ⟨rfl, hr8, hg8⟩
            clear KK
            have HG8 : Hid (w.grownBy w8 (some R) ∧ Z3 w.heap.size w8) := ⟨gb_trans HG7.out.1 hg8, HG7.out.2.row hg8 HRN.out⟩
            clear hg8
            have KK := KH.out 44 w8 (by rw [HL.out]; decide) hr8
            go_wp2_with fail
            refine KK.mono ?_
            rintro e w9 ⟨rfl, hr9, hg9⟩
            clear KK
            have HG9 : Hid (w.grownBy w9 (some R) ∧ Z3 w.heap.size w9) := ⟨gb_trans HG8.out.1 hg9, HG8.out.2.row hg9 HRN.out⟩
            clear hg9
            go_wp2_with fail
            refine (MN.out w9).mono ?_
            rintro e wq ⟨rfl, rfl⟩
            exact ⟨rfl, rfl, HG9.out.1⟩
          · go_enter Try.func36, Try.ntmps36
            go_wp2_with fail
            refine KT.mono ?_
            rintro e w2 ⟨rfl, hr2, hg2⟩
            clear KT
            have HG2 : Hid (w.grownBy w2 (some R) ∧ Z3 w.heap.size w2) := ⟨gb_trans HG1.out.1 hg2, HG1.out.2.row hg2 HRN.out⟩
            clear hg2
            have KK := KH.out 16 w2 (by rw [HL.out]; decide) hr2
            go_wp2_with fail
            refine KK.mono ?_
            rintro e w3 ⟨rfl, hr3, hg3⟩
            clear KK
            have HG3 : Hid (w.grownBy w3 (some R) ∧ Z3 w.heap.size w3) := ⟨gb_trans HG2.out.1 hg3, HG2.out.2.row hg3 HRN.out⟩
            clear hg3
            go_wp2_with fail
            refine (MY.out w3).mono ?_
            rintro e w3' ⟨rfl, rfl⟩
            go_wp2_with fail
            refine (atEntry42 w3').mono ?_
            rintro e w4 ⟨rfl, hb4⟩
            have hr4 := hr3.kept (grown_of (row := none) hb4) (by simp)
            have HG4 : Hid (w.grownBy w4 (some R) ∧ Z3 w.heap.size w4) := ⟨gb_trans HG3.out.1 (grown_of hb4), HG3.out.2.keep hb4⟩
            clear hb4
            have KK := skip_ok_at R l entL (by rw [HL.out]; decide) 18 w4 (by rw [HL.out]; decide) hE hr4
            go_wp2_with fail
            refine KK.mono ?_
            rintro e w5 ⟨rfl, hr5, hg5⟩
            clear KK
            have HG5 : Hid (w.grownBy w5 (some R) ∧ Z3 w.heap.size w5) := ⟨gb_trans HG4.out.1 hg5, HG4.out.2.row hg5 HRN.out⟩
            clear hg5
            have KK := KWD.out 24 w5 (by rw [HL.out]; decide) hr5
            go_wp2_with fail
            refine KK.mono ?_
            rintro e w6 ⟨rfl, hr6, hg6⟩
            clear KK
            have HG6 : Hid (w.grownBy w6 (some R) ∧ Z3 w.heap.size w6) := ⟨gb_trans HG5.out.1 hg6, HG5.out.2.row hg6 HRN.out⟩
            clear hg6
            go_wp2_with fail
            refine (atCount44 w6).mono ?_
            rintro e w7 ⟨rfl, hb7⟩
            have hr7 := hr6.kept (grown_of (row := none) hb7) (by simp)
            have HG7 : Hid (w.grownBy w7 (some R) ∧ Z3 w.heap.size w7) := ⟨gb_trans HG6.out.1 (grown_of hb7), HG6.out.2.keep hb7⟩
            clear hb7
            have KK := skip_ok_at R l cntL (by rw [HL.out]; decide) 28 w7 (by rw [HL.out]; decide) hC hr7
            go_wp2_with fail
            refine KK.mono ?_
            rintro e w8 ⟨rfl, hr8, hg8⟩
            clear KK
            have HG8 : Hid (w.grownBy w8 (some R) ∧ Z3 w.heap.size w8) := ⟨gb_trans HG7.out.1 hg8, HG7.out.2.row hg8 HRN.out⟩
            clear hg8
            have KK := KH.out 44 w8 (by rw [HL.out]; decide) hr8
            go_wp2_with fail
            refine KK.mono ?_
            rintro e w9 ⟨rfl, hr9, hg9⟩
            clear KK
            have HG9 : Hid (w.grownBy w9 (some R) ∧ Z3 w.heap.size w9) := ⟨gb_trans HG8.out.1 hg9, HG8.out.2.row hg9 HRN.out⟩
            clear hg9
            go_wp2_with fail
            refine (MN.out w9).mono ?_
            rintro e wq ⟨rfl, rfl⟩
            exact ⟨rfl, rfl, HG9.out.1⟩
      · clear hK hfo hm
        rcases hki with hki | ⟨hkj, hki⟩
        · go_enter Try.func36, Try.ntmps36
          go_wp2_with fail
          refine KT.mono ?_
          rintro e w2 ⟨rfl, hr2, hg2⟩
          clear KT
          have HG2 : Hid (w.grownBy w2 (some R) ∧ Z3 w.heap.size w2) := ⟨gb_trans HG1.out.1 hg2, HG1.out.2.row hg2 HRN.out⟩
          clear hg2
          have KK := KH.out 16 w2 (by rw [HL.out]; decide) hr2
          go_wp2_with fail
          refine KK.mono ?_
          rintro e w3 ⟨rfl, hr3, hg3⟩
          clear KK
          have HG3 : Hid (w.grownBy w3 (some R) ∧ Z3 w.heap.size w3) := ⟨gb_trans HG2.out.1 hg3, HG2.out.2.row hg3 HRN.out⟩
          clear hg3
          go_wp2_with fail
          refine (MY.out w3).mono ?_
          rintro e w3' ⟨rfl, rfl⟩
          go_wp2_with fail
          refine (atEntry42 w3').mono ?_
          rintro e w4 ⟨rfl, hb4⟩
          have hr4 := hr3.kept (grown_of (row := none) hb4) (by simp)
          have HG4 : Hid (w.grownBy w4 (some R) ∧ Z3 w.heap.size w4) := ⟨gb_trans HG3.out.1 (grown_of hb4), HG3.out.2.keep hb4⟩
          clear hb4
          have KK := skip_ok_at R l entL (by rw [HL.out]; decide) 18 w4 (by rw [HL.out]; decide) hE hr4
          go_wp2_with fail
          refine KK.mono ?_
          rintro e w5 ⟨rfl, hr5, hg5⟩
          clear KK
          have HG5 : Hid (w.grownBy w5 (some R) ∧ Z3 w.heap.size w5) := ⟨gb_trans HG4.out.1 hg5, HG4.out.2.row hg5 HRN.out⟩
          clear hg5
          have KK := KWD.out 24 w5 (by rw [HL.out]; decide) hr5
          go_wp2_with fail
          refine KK.mono ?_
          rintro e w6 ⟨rfl, hr6, hg6⟩
          clear KK
          have HG6 : Hid (w.grownBy w6 (some R) ∧ Z3 w.heap.size w6) := ⟨gb_trans HG5.out.1 hg6, HG5.out.2.row hg6 HRN.out⟩
          clear hg6
          go_wp2_with fail
          refine (atCount44 w6).mono ?_
          rintro e w7 ⟨rfl, hb7⟩
          have hr7 := hr6.kept (grown_of (row := none) hb7) (by simp)
          have HG7 : Hid (w.grownBy w7 (some R) ∧ Z3 w.heap.size w7) := ⟨gb_trans HG6.out.1 (grown_of hb7), HG6.out.2.keep hb7⟩
          clear hb7
          go_wp2_with fail
          refine (skip_no_at R l cntL (by rw [HL.out]; decide) 28 w7 (by rw [HL.out]; decide) hC hr7).mono ?_
          rintro e wq ⟨rfl, hgq⟩
          exact ⟨rfl, rfl, gb_trans HG7.out.1 hgq⟩
        · go_enter Try.func36, Try.ntmps36
          go_wp2_with fail
          refine KT.mono ?_
          rintro e w2 ⟨rfl, hr2, hg2⟩
          clear KT
          have HG2 : Hid (w.grownBy w2 (some R) ∧ Z3 w.heap.size w2) := ⟨gb_trans HG1.out.1 hg2, HG1.out.2.row hg2 HRN.out⟩
          clear hg2
          have KK := KH.out 16 w2 (by rw [HL.out]; decide) hr2
          go_wp2_with fail
          refine KK.mono ?_
          rintro e w3 ⟨rfl, hr3, hg3⟩
          clear KK
          have HG3 : Hid (w.grownBy w3 (some R) ∧ Z3 w.heap.size w3) := ⟨gb_trans HG2.out.1 hg3, HG2.out.2.row hg3 HRN.out⟩
          clear hg3
          go_wp2_with fail
          refine (MY.out w3).mono ?_
          rintro e w3' ⟨rfl, rfl⟩
          go_wp2_with fail
          refine (atEntry42 w3').mono ?_
          rintro e w4 ⟨rfl, hb4⟩
          have hr4 := hr3.kept (grown_of (row := none) hb4) (by simp)
          have HG4 : Hid (w.grownBy w4 (some R) ∧ Z3 w.heap.size w4) := ⟨gb_trans HG3.out.1 (grown_of hb4), HG3.out.2.keep hb4⟩
          clear hb4
          have KK := skip_ok_at R l entL (by rw [HL.out]; decide) 18 w4 (by rw [HL.out]; decide) hE hr4
          go_wp2_with fail
          refine KK.mono ?_
          rintro e w5 ⟨rfl, hr5, hg5⟩
          clear KK
          have HG5 : Hid (w.grownBy w5 (some R) ∧ Z3 w.heap.size w5) := ⟨gb_trans HG4.out.1 hg5, HG4.out.2.row hg5 HRN.out⟩
          clear hg5
          have KK := KWD.out 24 w5 (by rw [HL.out]; decide) hr5
          go_wp2_with fail
          refine KK.mono ?_
          rintro e w6 ⟨rfl, hr6, hg6⟩
          clear KK
          have HG6 : Hid (w.grownBy w6 (some R) ∧ Z3 w.heap.size w6) := ⟨gb_trans HG5.out.1 hg6, HG5.out.2.row hg6 HRN.out⟩
          clear hg6
          go_wp2_with fail
          refine (atCount44 w6).mono ?_
          rintro e w7 ⟨rfl, hb7⟩
          have hr7 := hr6.kept (grown_of (row := none) hb7) (by simp)
          have HG7 : Hid (w.grownBy w7 (some R) ∧ Z3 w.heap.size w7) := ⟨gb_trans HG6.out.1 (grown_of hb7), HG6.out.2.keep hb7⟩
          clear hb7
          go_wp2_with fail
          refine (skip_no_at R l cntL (by rw [HL.out]; decide) 28 w7 (by rw [HL.out]; decide) hC hr7).mono ?_
          rintro e wq ⟨rfl, hgq⟩
          exact ⟨rfl, rfl, gb_trans HG7.out.1 hgq⟩
    · clear hK hfo hm
      rcases hki with hki | ⟨hkj, hki⟩
      · go_enter Try.func36, Try.ntmps36
        go_wp2_with fail
        refine KT.mono ?_
        rintro e w2 ⟨rfl, hr2, hg2⟩
        clear KT
        have HG2 : Hid (w.grownBy w2 (some R) ∧ Z3 w.heap.size w2) := ⟨gb_trans HG1.out.1 hg2, HG1.out.2.row hg2 HRN.out⟩
        clear hg2
        have KK := KH.out 16 w2 (by rw [HL.out]; decide) hr2
        go_wp2_with fail
        refine KK.mono ?_
        rintro e w3 ⟨rfl, hr3, hg3⟩
        clear KK
        have HG3 : Hid (w.grownBy w3 (some R) ∧ Z3 w.heap.size w3) := ⟨gb_trans HG2.out.1 hg3, HG2.out.2.row hg3 HRN.out⟩
        clear hg3
        go_wp2_with fail
        refine (MY.out w3).mono ?_
        rintro e w3' ⟨rfl, rfl⟩
        go_wp2_with fail
        refine (atEntry42 w3').mono ?_
        rintro e w4 ⟨rfl, hb4⟩
        have hr4 := hr3.kept (grown_of (row := none) hb4) (by simp)
        have HG4 : Hid (w.grownBy w4 (some R) ∧ Z3 w.heap.size w4) := ⟨gb_trans HG3.out.1 (grown_of hb4), HG3.out.2.keep hb4⟩
        clear hb4
        go_wp2_with fail
        refine (skip_no_at R l entL (by rw [HL.out]; decide) 18 w4 (by rw [HL.out]; decide) hE hr4).mono ?_
        rintro e wq ⟨rfl, hgq⟩
        exact ⟨rfl, rfl, gb_trans HG4.out.1 hgq⟩
      · go_enter Try.func36, Try.ntmps36
        go_wp2_with fail
        refine KT.mono ?_
        rintro e w2 ⟨rfl, hr2, hg2⟩
        clear KT
        have HG2 : Hid (w.grownBy w2 (some R) ∧ Z3 w.heap.size w2) := ⟨gb_trans HG1.out.1 hg2, HG1.out.2.row hg2 HRN.out⟩
        clear hg2
        have KK := KH.out 16 w2 (by rw [HL.out]; decide) hr2
        go_wp2_with fail
        refine KK.mono ?_
        rintro e w3 ⟨rfl, hr3, hg3⟩
        clear KK
        have HG3 : Hid (w.grownBy w3 (some R) ∧ Z3 w.heap.size w3) := ⟨gb_trans HG2.out.1 hg3, HG2.out.2.row hg3 HRN.out⟩
        clear hg3
        go_wp2_with fail
        refine (MY.out w3).mono ?_
        rintro e w3' ⟨rfl, rfl⟩
        go_wp2_with fail
        refine (atEntry42 w3').mono ?_
        rintro e w4 ⟨rfl, hb4⟩
        have hr4 := hr3.kept (grown_of (row := none) hb4) (by simp)
        have HG4 : Hid (w.grownBy w4 (some R) ∧ Z3 w.heap.size w4) := ⟨gb_trans HG3.out.1 (grown_of hb4), HG3.out.2.keep hb4⟩
        clear hb4
        go_wp2_with fail
        refine (skip_no_at R l entL (by rw [HL.out]; decide) 18 w4 (by rw [HL.out]; decide) hE hr4).mono ?_
        rintro e wq ⟨rfl, hgq⟩
        exact ⟨rfl, rfl, gb_trans HG4.out.1 hgq⟩
  · have hk2 : ((hf l 16 : Int) == 2) = false := by rw [beq_eq_false_iff_ne]; intro h; exact hK (Or.inl (by omega))
    have hk3 : ((hf l 16 : Int) == 3) = false := by rw [beq_eq_false_iff_ne]; intro h; exact hK (Or.inr (by omega))
    clear hK hfo hm
    go_enter Try.func36, Try.ntmps36
    go_wp2_with fail
    refine KT.mono ?_
    rintro e w2 ⟨rfl, hr2, hg2⟩
    clear KT
    have HG2 : Hid (w.grownBy w2 (some R) ∧ Z3 w.heap.size w2) := ⟨gb_trans HG1.out.1 hg2, HG1.out.2.row hg2 HRN.out⟩
    clear hg2
    have KK := KH.out 16 w2 (by rw [HL.out]; decide) hr2
    go_wp2_with fail
    refine KK.mono ?_
    rintro e w3 ⟨rfl, hr3, hg3⟩
    clear KK
    have HG3 : Hid (w.grownBy w3 (some R) ∧ Z3 w.heap.size w3) := ⟨gb_trans HG2.out.1 hg3, HG2.out.2.row hg3 HRN.out⟩
    clear hg3
    go_wp2_with fail
    refine (MN.out w3).mono ?_
    rintro e wq ⟨rfl, rfl⟩
    exact ⟨rfl, rfl, HG3.out.1⟩
end Go.Proofs.Ythhallhmolgpbaa
