/- What is proved here: a segment is taken off a file, or it throws. -/
import Derived.Test.YthhallhmolgpbaaSl
namespace Go.Proofs.Ythhallhmolgpbaa
open Go.RowKit
set_option linter.unusedVariables false
set_option linter.unusedSimpArgs false
set_option maxRecDepth 100000
/-- A segment's block. -/
def B7 (g : Sg) (b : Nat) (w : World) : Prop := w.heap[b]? = some (.cells #[.int .i64 (g.kind : Int), .int .u32 (g.off : Int), .int .u32 (g.at_ : Int), .int .u32 (g.size : Int), .int .u32 (g.room : Int), .int .i64 (g.prot : Int), .int .u32 (g.align : Int)] 39 (0, 0))
theorem B7.lt {g : Sg} {b : Nat} {w : World} (h : B7 g b w) : b < w.heap.size := (Array.getElem?_eq_some_iff.1 h).1
theorem B7.cells {g : Sg} {b : Nat} {w : World} (h : B7 g b w) : w.cell? ⟨b, 0, none⟩ = some (.int .i64 (g.kind : Int)) ∧ w.cell? ⟨b, 1, none⟩ = some (.int .u32 (g.off : Int)) ∧ w.cell? ⟨b, 2, none⟩ = some (.int .u32 (g.at_ : Int)) ∧ w.cell? ⟨b, 3, none⟩ = some (.int .u32 (g.size : Int)) ∧ w.cell? ⟨b, 4, none⟩ = some (.int .u32 (g.room : Int)) ∧ w.cell? ⟨b, 5, none⟩ = some (.int .i64 (g.prot : Int)) ∧ w.cell? ⟨b, 6, none⟩ = some (.int .u32 (g.align : Int)) := by
  have h' : w.heap[b]? = _ := h
  refine ⟨?_, ?_, ?_, ?_, ?_, ?_, ?_⟩ <;> simp [World.cell?, h']
theorem B7.frozen {g : Sg} {b : Nat} {w : World} (h : B7 g b w) (k : Nat) : w.frozen? ⟨b, k, none⟩ = false := by
  have h' : w.heap[b]? = _ := h
  simp [World.frozen?, h']
theorem B7.row {g : Sg} {b : Nat} {w w' : World} {row : Option Nat} (h : B7 g b w) (hg : w.grownBy w' row) (hr : some b ≠ row) : B7 g b w' := (hg.block b h.lt hr).trans h
theorem blk_set {w : World} {b : Nat} {cs : Array Value} {t : Nat} (h : w.heap[b]? = some (.cells cs t (0, 0))) (k : Nat) (v : Value) : (w.setCell ⟨b, k, none⟩ v).heap[b]? = some (.cells (cs.setIfInBounds k v) t (0, 0)) := by
  obtain ⟨hlt, hk⟩ := Array.getElem?_eq_some_iff.1 h
  show (w.heap.modify b _)[b]? = _
  rw [Array.getElem?_eq_getElem (by rw [Array.size_modify]; exact hlt), Array.getElem_modify_self, hk]
  simp
theorem grown_setk (w : World) (b k : Nat) (v : Value) : w.grownBy (w.setCell ⟨b, k, none⟩ v) (some b) :=
  ⟨rfl, rfl, rfl, (KeepsWalks.setCell w _ v).size, fun j _ hk => Below.heap_setCell _ _ _ j (fun e => hk (by rw [e]))⟩
/-- Seven cells are stored. -/
def st7 (w : World) (b : Nat) (g : Sg) : World := (((((((w).setCell ⟨b, 0, none⟩ (.int .i64 (g.kind : Int))).setCell ⟨b, 1, none⟩ (.int .u32 (g.off : Int))).setCell ⟨b, 2, none⟩ (.int .u32 (g.at_ : Int))).setCell ⟨b, 3, none⟩ (.int .u32 (g.size : Int))).setCell ⟨b, 4, none⟩ (.int .u32 (g.room : Int))).setCell ⟨b, 5, none⟩ (.int .i64 (g.prot : Int))).setCell ⟨b, 6, none⟩ (.int .u32 (g.align : Int))
theorem st7_in {w : World} {b : Nat} {j : Sg} (h : B7 j b w) (g : Sg) : B7 g b (st7 w b g) := by
  unfold B7 st7
  unfold B7 at h
  have h0 := blk_set h 0 (.int .i64 (g.kind : Int))
  have h1 := blk_set h0 1 (.int .u32 (g.off : Int))
  have h2 := blk_set h1 2 (.int .u32 (g.at_ : Int))
  have h3 := blk_set h2 3 (.int .u32 (g.size : Int))
  have h4 := blk_set h3 4 (.int .u32 (g.room : Int))
  have h5 := blk_set h4 5 (.int .i64 (g.prot : Int))
  have h6 := blk_set h5 6 (.int .u32 (g.align : Int))
  simp at h6
  exact h6
theorem st7_grown (w : World) (b : Nat) (g : Sg) : w.grownBy (st7 w b g) (some b) := by
  unfold st7
  refine gb_trans ?_ (grown_setk _ b 6 _)
  refine gb_trans ?_ (grown_setk _ b 5 _)
  refine gb_trans ?_ (grown_setk _ b 4 _)
  refine gb_trans ?_ (grown_setk _ b 3 _)
  refine gb_trans ?_ (grown_setk _ b 2 _)
  refine gb_trans ?_ (grown_setk _ b 1 _)
  exact grown_setk w b 0 _
theorem gb_out {a b c : World} {R k : Nat} (h : a.grownBy b (some R)) (g : b.grownBy c (some k)) (hk : a.heap.size ≤ k) : a.grownBy c (some R) :=
  ⟨g.os.trans h.os, g.tape.trans h.tape, g.output.trans h.output, Nat.le_trans h.size g.size, fun i hi hr => (g.block i (Nat.lt_of_lt_of_le hi h.size) (fun e => by injection e with e; omega)).trans (h.block i hi hr)⟩
def zeroS : Sg := ⟨0, 0, 0, 0, 0, 0, 0⟩
theorem wd_drop (l : L8) (a b : Nat) : wd (l.drop a) b = wd l (a + b) := by unfold wd; rw [List.drop_drop]
theorem hf_drop (l : L8) (a b : Nat) : hf (l.drop a) b = hf l (a + b) := by unfold hf; rw [List.drop_drop]
theorem word_at (R : Nat) (l : L8) (hl : l.length ≤ 1000000) (k : Nat) (w : World) (hk : k + 4 ≤ l.length) (hr : Rd R w (l.drop k)) :
    Calls Try.prog 51 #[.pointer (some ⟨R, 0, none⟩)] w fun e w' => e = .returned (.int .u32 (wd l k : Int)) ∧ Rd R w' (l.drop (k + 4)) ∧ w.grownBy w' (some R) := by
  have h := word51 R (l.drop k) (by simp; omega) (by simp; omega) w hr
  rw [wd_drop, List.drop_drop] at h
  exact h
theorem half_at (R : Nat) (l : L8) (hl : l.length ≤ 1000000) (k : Nat) (w : World) (hk : k + 2 ≤ l.length) (hr : Rd R w (l.drop k)) :
    Calls Try.prog 49 #[.pointer (some ⟨R, 0, none⟩)] w fun e w' => e = .returned (.int .u32 (hf l k : Int)) ∧ Rd R w' (l.drop (k + 2)) ∧ w.grownBy w' (some R) := by
  have h := half49 R (l.drop k) (by simp; omega) (by simp; omega) w hr
  rw [hf_drop, List.drop_drop] at h
  exact h
set_option maxHeartbeats 2000000 in
theorem segment37_ok (R : Nat) (l : L8) (hn : 32 ≤ l.length) (hl : l.length ≤ 1000000) (hok : segOk l = true) (w : World) (hr : Rd R w l) :
    Calls Try.prog 37 #[.pointer (some ⟨R, 0, none⟩)] w fun e w' => e = .returned (segN l).val ∧ Rd R w' (l.drop 32) ∧ w.grownBy w' (some R) := by
  unfold segOk at hok
  rw [Bool.and_eq_true, beq_iff_eq, decide_eq_true_eq] at hok
  obtain ⟨W1, hW1⟩ : ∃ W1, w.alloc (.cells #[.int .i64 0, .int .u32 0, .int .u32 0, .int .u32 0, .int .u32 0, .int .i64 0, .int .u32 0] 39) = W1 := ⟨_, rfl⟩
  have hz : W1.heap.size = w.heap.size + 1 := by rw [← hW1]; simp
  have hb1 : Below w.heap.size w W1 := by rw [← hW1]; exact (Below.refl _ _).alloc (Nat.le_refl _) _
  have B0 : B7 zeroS w.heap.size W1 := by rw [← hW1]; exact World.alloc_heap_new w _
  have hRlt : R < w.heap.size := World.block_lt_of_cell? _ _ hr.cell
  have hr0 : Rd R W1 (l.drop 0) := by rw [List.drop_zero]; exact hr.kept (grown_of (row := none) hb1) (by simp)
  have KW : Hid (∀ k w', k + 4 ≤ l.length → Rd R w' (l.drop k) → Calls Try.prog 51 #[.pointer (some ⟨R, 0, none⟩)] w' fun e w'' => e = .returned (.int .u32 (wd l k : Int)) ∧ Rd R w'' (l.drop (k + 4)) ∧ w'.grownBy w'' (some R)) := fun k w' hk h => word_at R l hl k w' hk h
  have HG1 : Hid (w.grownBy W1 (some R)) := grown_of hb1
  have HB0 : Hid (B7 zeroS w.heap.size W1) := B0
  have HRN : Hid (some w.heap.size ≠ some R) := by intro e; injection e with e; omega
  clear hb1 hr B0
  have e1 : ((wd l 8 : Int) == (wd l 12 : Int)) = true := by rw [hok.1]; exact beq_self_eq_true _
  have e2 : (wd l 24 : Int) ≤ 7 := by have := hok.2; omega
  have e3 := decide_eq_true e2
  have K11 : Hid (∀ w', Calls Try.prog 11 #[.int .u32 (wd l 24 : Int)] w' fun e w'' => e = .returned (.int .i64 (protN (wd l 24) : Int)) ∧ w'' = w') := fun w' => prots11 _ (wd_lt _ _) w'
  have MU : Hid (∀ w', Calls Try.prog 38 #[.bool true] w' fun e w'' => e = .returned (.tuple #[]) ∧ w'' = w') := must38_ok
  have i0 := wd_lt l 0
  have w0 : wrap64 (wd l 0 : Int) = (wd l 0 : Int) := by unfold wrap64; omega
  obtain ⟨G, hG⟩ : ∃ G, G = segN l := ⟨_, rfl⟩
  rw [← hG]
  have HGV : Hid (G = ⟨(wd l 0 : Int), wd l 4, wd l 8, wd l 16, wd l 20, (protN (wd l 24) : Int), wd l 28⟩) := hG
  clear hG hok i0
  go_enter Try.func37, Try.ntmps37
  have KK0 := KW.out 0 W1 (by omega) hr0
  go_wp2_with fail
  refine KK0.mono ?_
  rintro e w2 ⟨rfl, hr1, hg2⟩
  clear KK0
  have HG2 : Hid (w.grownBy w2 (some R) ∧ B7 zeroS w.heap.size w2) := ⟨gb_trans HG1.out hg2, HB0.out.row hg2 HRN.out⟩
  clear hg2 hW1
  have KK1 := KW.out 4 w2 (by omega) hr1
  go_wp2_with fail
  refine KK1.mono ?_
  rintro e w3 ⟨rfl, hr2, hg3⟩
  clear KK1
  have HG3 : Hid (w.grownBy w3 (some R) ∧ B7 zeroS w.heap.size w3) := ⟨gb_trans HG2.out.1 hg3, HG2.out.2.row hg3 HRN.out⟩
  clear hg3
  have KK2 := KW.out 8 w3 (by omega) hr2
  go_wp2_with fail
  refine KK2.mono ?_
  rintro e w4 ⟨rfl, hr3, hg4⟩
  clear KK2
  have HG4 : Hid (w.grownBy w4 (some R) ∧ B7 zeroS w.heap.size w4) := ⟨gb_trans HG3.out.1 hg4, HG3.out.2.row hg4 HRN.out⟩
  clear hg4
  have KK3 := KW.out 12 w4 (by omega) hr3
  go_wp2_with fail
  refine KK3.mono ?_
  rintro e w5 ⟨rfl, hr4, hg5⟩
  clear KK3
  have HG5 : Hid (w.grownBy w5 (some R) ∧ B7 zeroS w.heap.size w5) := ⟨gb_trans HG4.out.1 hg5, HG4.out.2.row hg5 HRN.out⟩
  clear hg5
  have KK4 := KW.out 16 w5 (by omega) hr4
  go_wp2_with fail
  refine KK4.mono ?_
  rintro e w6 ⟨rfl, hr5, hg6⟩
  clear KK4
  have HG6 : Hid (w.grownBy w6 (some R) ∧ B7 zeroS w.heap.size w6) := ⟨gb_trans HG5.out.1 hg6, HG5.out.2.row hg6 HRN.out⟩
  clear hg6
  have KK5 := KW.out 20 w6 (by omega) hr5
  go_wp2_with fail
  refine KK5.mono ?_
  rintro e w7 ⟨rfl, hr6, hg7⟩
  clear KK5
  have HG7 : Hid (w.grownBy w7 (some R) ∧ B7 zeroS w.heap.size w7) := ⟨gb_trans HG6.out.1 hg7, HG6.out.2.row hg7 HRN.out⟩
  clear hg7
  have KK6 := KW.out 24 w7 (by omega) hr6
  go_wp2_with fail
  refine KK6.mono ?_
  rintro e w8 ⟨rfl, hr7, hg8⟩
  clear KK6
  have HG8 : Hid (w.grownBy w8 (some R) ∧ B7 zeroS w.heap.size w8) := ⟨gb_trans HG7.out.1 hg8, HG7.out.2.row hg8 HRN.out⟩
  clear hg8
  have KK7 := KW.out 28 w8 (by omega) hr7
  go_wp2_with fail
  refine KK7.mono ?_
  rintro e w9 ⟨rfl, hr8, hg9⟩
  clear KK7
  have HG9 : Hid (w.grownBy w9 (some R) ∧ B7 zeroS w.heap.size w9) := ⟨gb_trans HG8.out.1 hg9, HG8.out.2.row hg9 HRN.out⟩
  clear hg9
  go_wp2_with fail
  refine (MU.out w9).mono ?_
  rintro e w10 ⟨rfl, rfl⟩
  go_wp2_with fail
  refine (K11.out w10).mono ?_
  rintro e w11 ⟨rfl, rfl⟩
  have z2 := HG9.out.2
  obtain ⟨q0, q1, q2, q3, q4, q5, q6⟩ := z2.cells
  have f0 := z2.frozen 0
  have f1 := z2.frozen 1
  have f2 := z2.frozen 2
  have f3 := z2.frozen 3
  have f4 := z2.frozen 4
  have f5 := z2.frozen 5
  have f6 := z2.frozen 6
  obtain ⟨W8, hW8⟩ : ∃ z, (((((((w11).setCell ⟨w.heap.size, 0, none⟩ (.int .i64 (wd l 0 : Int))).setCell ⟨w.heap.size, 1, none⟩ (.int .u32 (wd l 4 : Int))).setCell ⟨w.heap.size, 2, none⟩ (.int .u32 (wd l 8 : Int))).setCell ⟨w.heap.size, 3, none⟩ (.int .u32 (wd l 16 : Int))).setCell ⟨w.heap.size, 4, none⟩ (.int .u32 (wd l 20 : Int))).setCell ⟨w.heap.size, 5, none⟩ (.int .i64 (protN (wd l 24) : Int))).setCell ⟨w.heap.size, 6, none⟩ (.int .u32 (wd l 28 : Int)) = z := ⟨_, rfl⟩
  have i8 := st7_in z2 ⟨(wd l 0 : Int), wd l 4, wd l 8, wd l 16, wd l 20, (protN (wd l 24) : Int), wd l 28⟩
  have g8 := st7_grown w11 w.heap.size ⟨(wd l 0 : Int), wd l 4, wd l 8, wd l 16, wd l 20, (protN (wd l 24) : Int), wd l 28⟩
  rw [show st7 w11 w.heap.size ⟨(wd l 0 : Int), wd l 4, wd l 8, wd l 16, wd l 20, (protN (wd l 24) : Int), wd l 28⟩ = W8 from hW8] at i8 g8
  have hr9 : Rd R W8 (l.drop 32) := hr8.kept g8 (by intro e; injection e with e; omega)
  have HE : Hid (Rd R W8 (l.drop 32) ∧ w.grownBy W8 (some R)) := ⟨hr9, gb_out HG9.out.1 g8 (Nat.le_refl _)⟩
  obtain ⟨s0, s1, s2, s3, s4, s5, s6⟩ := i8.cells
  clear z2 hr8 g8 hr9 i8
  go_wp2
  refine bodyPost_ret (v := G.val) ?_ rfl ⟨rfl, HE.out⟩
  rw [HGV.out, results_cell1 rfl]; simp [go_sem, Sg.val, s0, s1, s2, s3, s4, s5, s6]
set_option maxHeartbeats 2000000 in
theorem segment37_no (R : Nat) (l : L8) (hn : 32 ≤ l.length) (hl : l.length ≤ 1000000) (hok : segOk l = false) (w : World) (hr : Rd R w l) :
    Calls Try.prog 37 #[.pointer (some ⟨R, 0, none⟩)] w fun e w' => e = .panicked (thrown 103) ∧ w.grownBy w' (some R) := by
  obtain ⟨W1, hW1⟩ : ∃ W1, w.alloc (.cells #[.int .i64 0, .int .u32 0, .int .u32 0, .int .u32 0, .int .u32 0, .int .i64 0, .int .u32 0] 39) = W1 := ⟨_, rfl⟩
  have hz : W1.heap.size = w.heap.size + 1 := by rw [← hW1]; simp
  have hb1 : Below w.heap.size w W1 := by rw [← hW1]; exact (Below.refl _ _).alloc (Nat.le_refl _) _
  have B0 : B7 zeroS w.heap.size W1 := by rw [← hW1]; exact World.alloc_heap_new w _
  have hRlt : R < w.heap.size := World.block_lt_of_cell? _ _ hr.cell
  have hr0 : Rd R W1 (l.drop 0) := by rw [List.drop_zero]; exact hr.kept (grown_of (row := none) hb1) (by simp)
  have KW : Hid (∀ k w', k + 4 ≤ l.length → Rd R w' (l.drop k) → Calls Try.prog 51 #[.pointer (some ⟨R, 0, none⟩)] w' fun e w'' => e = .returned (.int .u32 (wd l k : Int)) ∧ Rd R w'' (l.drop (k + 4)) ∧ w'.grownBy w'' (some R)) := fun k w' hk h => word_at R l hl k w' hk h
  have HG1 : Hid (w.grownBy W1 (some R)) := grown_of hb1
  have HB0 : Hid (B7 zeroS w.heap.size W1) := B0
  have HRN : Hid (some w.heap.size ≠ some R) := by intro e; injection e with e; omega
  clear hb1 hr B0
  by_cases h1 : wd l 8 = wd l 12
  · have h2 : ¬ wd l 24 ≤ 7 := by
      intro h
      unfold segOk at hok
      rw [decide_eq_true h, h1, beq_self_eq_true] at hok
      cases hok
    have e1 : ((wd l 8 : Int) == (wd l 12 : Int)) = true := by rw [h1]; exact beq_self_eq_true _
    have e2 : ¬ (wd l 24 : Int) ≤ 7 := by omega
    have e3 := decide_eq_false e2
    clear hok h1 h2
    have MU : Hid (∀ w', Calls Try.prog 38 #[.bool false] w' fun e w'' => e = .panicked (thrown 103) ∧ w'' = w') := must38_no
    go_enter Try.func37, Try.ntmps37
    have KK0 := KW.out 0 W1 (by omega) hr0
    go_wp2_with fail
    refine KK0.mono ?_
    rintro e w2 ⟨rfl, hr1, hg2⟩
    clear KK0
    have HG2 : Hid (w.grownBy w2 (some R) ∧ B7 zeroS w.heap.size w2) := ⟨gb_trans HG1.out hg2, HB0.out.row hg2 HRN.out⟩
    clear hg2 hW1
    have KK1 := KW.out 4 w2 (by omega) hr1
    go_wp2_with fail
    refine KK1.mono ?_
    rintro e w3 ⟨rfl, hr2, hg3⟩
    clear KK1
    have HG3 : Hid (w.grownBy w3 (some R) ∧ B7 zeroS w.heap.size w3) := ⟨gb_trans HG2.out.1 hg3, HG2.out.2.row hg3 HRN.out⟩
    clear hg3
    have KK2 := KW.out 8 w3 (by omega) hr2
    go_wp2_with fail
    refine KK2.mono ?_
    rintro e w4 ⟨rfl, hr3, hg4⟩
    clear KK2
    have HG4 : Hid (w.grownBy w4 (some R) ∧ B7 zeroS w.heap.size w4) := ⟨gb_trans HG3.out.1 hg4, HG3.out.2.row hg4 HRN.out⟩
    clear hg4
    have KK3 := KW.out 12 w4 (by omega) hr3
    go_wp2_with fail
    refine KK3.mono ?_
    rintro e w5 ⟨rfl, hr4, hg5⟩
    clear KK3
    have HG5 : Hid (w.grownBy w5 (some R) ∧ B7 zeroS w.heap.size w5) := ⟨gb_trans HG4.out.1 hg5, HG4.out.2.row hg5 HRN.out⟩
    clear hg5
    have KK4 := KW.out 16 w5 (by omega) hr4
    go_wp2_with fail
    refine KK4.mono ?_
    rintro e w6 ⟨rfl, hr5, hg6⟩
    clear KK4
    have HG6 : Hid (w.grownBy w6 (some R) ∧ B7 zeroS w.heap.size w6) := ⟨gb_trans HG5.out.1 hg6, HG5.out.2.row hg6 HRN.out⟩
    clear hg6
    have KK5 := KW.out 20 w6 (by omega) hr5
    go_wp2_with fail
    refine KK5.mono ?_
    rintro e w7 ⟨rfl, hr6, hg7⟩
    clear KK5
    have HG7 : Hid (w.grownBy w7 (some R) ∧ B7 zeroS w.heap.size w7) := ⟨gb_trans HG6.out.1 hg7, HG6.out.2.row hg7 HRN.out⟩
    clear hg7
    have KK6 := KW.out 24 w7 (by omega) hr6
    go_wp2_with fail
    refine KK6.mono ?_
    rintro e w8 ⟨rfl, hr7, hg8⟩
    clear KK6
    have HG8 : Hid (w.grownBy w8 (some R) ∧ B7 zeroS w.heap.size w8) := ⟨gb_trans HG7.out.1 hg8, HG7.out.2.row hg8 HRN.out⟩
    clear hg8
    have KK7 := KW.out 28 w8 (by omega) hr7
    go_wp2_with fail
    refine KK7.mono ?_
    rintro e w9 ⟨rfl, hr8, hg9⟩
    clear KK7
    have HG9 : Hid (w.grownBy w9 (some R) ∧ B7 zeroS w.heap.size w9) := ⟨gb_trans HG8.out.1 hg9, HG8.out.2.row hg9 HRN.out⟩
    clear hg9
    go_wp2_with fail
    refine (MU.out w9).mono ?_
    rintro e w10 ⟨rfl, rfl⟩
    exact ⟨rfl, rfl, HG9.out.1⟩
  · have e1 : ((wd l 8 : Int) == (wd l 12 : Int)) = false := by rw [beq_eq_false_iff_ne]; intro h; exact h1 (by omega)
    clear hok h1
    have MU : Hid (∀ w', Calls Try.prog 38 #[.bool false] w' fun e w'' => e = .panicked (thrown 103) ∧ w'' = w') := must38_no
    go_enter Try.func37, Try.ntmps37
    have KK0 := KW.out 0 W1 (by omega) hr0
    go_wp2_with fail
    refine KK0.mono ?_
    rintro e w2 ⟨rfl, hr1, hg2⟩
    clear KK0
    have HG2 : Hid (w.grownBy w2 (some R) ∧ B7 zeroS w.heap.size w2) := ⟨gb_trans HG1.out hg2, HB0.out.row hg2 HRN.out⟩
    clear hg2 hW1
    have KK1 := KW.out 4 w2 (by omega) hr1
    go_wp2_with fail
    refine KK1.mono ?_
    rintro e w3 ⟨rfl, hr2, hg3⟩
    clear KK1
    have HG3 : Hid (w.grownBy w3 (some R) ∧ B7 zeroS w.heap.size w3) := ⟨gb_trans HG2.out.1 hg3, HG2.out.2.row hg3 HRN.out⟩
    clear hg3
    have KK2 := KW.out 8 w3 (by omega) hr2
    go_wp2_with fail
    refine KK2.mono ?_
    rintro e w4 ⟨rfl, hr3, hg4⟩
    clear KK2
    have HG4 : Hid (w.grownBy w4 (some R) ∧ B7 zeroS w.heap.size w4) := ⟨gb_trans HG3.out.1 hg4, HG3.out.2.row hg4 HRN.out⟩
    clear hg4
    have KK3 := KW.out 12 w4 (by omega) hr3
    go_wp2_with fail
    refine KK3.mono ?_
    rintro e w5 ⟨rfl, hr4, hg5⟩
    clear KK3
    have HG5 : Hid (w.grownBy w5 (some R) ∧ B7 zeroS w.heap.size w5) := ⟨gb_trans HG4.out.1 hg5, HG4.out.2.row hg5 HRN.out⟩
    clear hg5
    have KK4 := KW.out 16 w5 (by omega) hr4
    go_wp2_with fail
    refine KK4.mono ?_
    rintro e w6 ⟨rfl, hr5, hg6⟩
    clear KK4
    have HG6 : Hid (w.grownBy w6 (some R) ∧ B7 zeroS w.heap.size w6) := ⟨gb_trans HG5.out.1 hg6, HG5.out.2.row hg6 HRN.out⟩
    clear hg6
    have KK5 := KW.out 20 w6 (by omega) hr5
    go_wp2_with fail
    refine KK5.mono ?_
    rintro e w7 ⟨rfl, hr6, hg7⟩
    clear KK5
    have HG7 : Hid (w.grownBy w7 (some R) ∧ B7 zeroS w.heap.size w7) := ⟨gb_trans HG6.out.1 hg7, HG6.out.2.row hg7 HRN.out⟩
    clear hg7
    have KK6 := KW.out 24 w7 (by omega) hr6
    go_wp2_with fail
    refine KK6.mono ?_
    rintro e w8 ⟨rfl, hr7, hg8⟩
    clear KK6
    have HG8 : Hid (w.grownBy w8 (some R) ∧ B7 zeroS w.heap.size w8) := ⟨gb_trans HG7.out.1 hg8, HG7.out.2.row hg8 HRN.out⟩
    clear hg8
    have KK7 := KW.out 28 w8 (by omega) hr7
    go_wp2_with fail
    refine KK7.mono ?_
    rintro e w9 ⟨rfl, hr8, hg9⟩
    clear KK7
    have HG9 : Hid (w.grownBy w9 (some R) ∧ B7 zeroS w.heap.size w9) := ⟨gb_trans HG8.out.1 hg9, HG8.out.2.row hg9 HRN.out⟩
    clear hg9
    go_wp2_with fail
    refine (MU.out w9).mono ?_
    rintro e w10 ⟨rfl, rfl⟩
    exact ⟨rfl, rfl, HG9.out.1⟩
end Go.Proofs.Ythhallhmolgpbaa
