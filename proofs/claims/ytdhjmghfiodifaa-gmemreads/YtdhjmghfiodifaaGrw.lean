/- What is proved here: GmemReads: its walk. -/
import Derived.Test.YtdhjmghfiodifaaGrt
import Derived.Test.YtdhjmghfiodifaaGtx
import Derived.Test.YtdhjmghfiodifaaGld
import Derived.Test.YtdhjmghfiodifaaGby
import Derived.Laws.StructEq
namespace Go.Proofs.Ytdhjmghfiodifaa
open Go.RowKit
set_option linter.unusedVariables false
set_option linter.unusedSimpArgs false
set_option maxRecDepth 100000
set_option maxHeartbeats 8000000 in
theorem reads_walk (vm vc vp : Value) (ms cs ps : List (Nat × Int)) (bs a n : Nat) (k longest : Int) (w : World) (hsl : SlG w vm vc vp ms cs ps) (hrc : ∀ y ∈ cs, y.1 < 18446744073709551616) (hw : Words cs) (hbs : bs < 18446744073709551616) (ha : a < 4294967296) (hn : n < 4294967296) :
    Calls Try.prog 3 #[.agg #[vm, vc, .int .u64 (bs : Int), vp], .int .u32 (a : Int), .int .u32 (n : Int), .int .i64 k, .int .i64 longest] w fun e w' => e = .returned (.bool true) ∧ Below w.heap.size w w' := by
  obtain ⟨am, pm, rfl, _⟩ := id hsl.1
  obtain ⟨ac, pc, rfl, _⟩ := id hsl.2.1
  obtain ⟨ap, pp, rfl, _⟩ := id hsl.2.2
  obtain ⟨nm, hnm⟩ : ∃ z, z = ms.length := ⟨_, rfl⟩
  obtain ⟨nc, hnc⟩ : ∃ z, z = cs.length := ⟨_, rfl⟩
  obtain ⟨np, hnp⟩ : ∃ z, z = ps.length := ⟨_, rfl⟩
  rw [← hnm, ← hnc, ← hnp] at hsl ⊢
  clear hnm hnc hnp
  obtain ⟨W, hW⟩ : ∃ z, w.alloc (.cells #[.slice am nm pm, .slice ac nc pc, .int .u64 (bs : Int), .slice ap np pp] 29) = z := ⟨_, rfl⟩
  have D0 : B4 W w.heap.size 29 (.slice am nm pm) (.slice ac nc pc) (.int .u64 (bs : Int)) (.slice ap np pp) := by rw [← hW]; exact B4.new w 29 _ _ _ _
  have hb : Below w.heap.size w W := by rw [← hW]; exact (Below.refl _ _).alloc (Nat.le_refl _) _
  have K8 := gfew8 _ _ _ ms cs ps bs W (hsl.keep hb) hrc hbs
  obtain ⟨c0, c1, c2, c3⟩ := D0.cells
  have HB : Hid (Below w.heap.size w W) := hb
  cases hfw : fewB ms cs ps bs with
  | false =>
    rw [hfw] at K8
    clear hsl hb hfw
    go_enter Try.func3, Try.ntmps3
    go_wp2_with fail
    refine K8.mono ?_
    rintro e w1 ⟨rfl, hb1⟩
    go_wp2_with fail
    refine (awake9 w1).mono ?_
    rintro e wz ⟨rfl, hbz⟩
    go_wp2
    go_ret
    exact ⟨rfl, below_tr HB.out (below_tr hb1 hbz)⟩
  | true =>
  rw [hfw] at K8
  have hfq : FitG ms cs ps bs := by
    unfold fewB at hfw
    rw [Bool.and_eq_true] at hfw
    exact of_fitGB hfw.2
  have HG : Hid (∀ w', Below W.heap.size W w' → GdM w' (.slice am nm pm) (.slice ac nc pc) (.slice ap np pp) ms cs ps bs) := fun w' hb' => by
    have h := hsl.keep (below_tr hb hb')
    have l1 := hfq.fq.1
    have l2 := hfq.fq.2.1
    have l3 := hfq.lp
    exact ⟨h.1, h.2.1, h.2.2, hfq.fq.2.2.1, hfq.fq.2.2.2.1, hfq.sp, by omega, by omega, by omega, hw, hfq.le⟩
  have HSL : Hid (∀ w', Below W.heap.size W w' → SlG w' (.slice am nm pm) (.slice ac nc pc) (.slice ap np pp) ms cs ps) := fun w' hb' => hsl.keep (below_tr hb hb')
  obtain ⟨T0, hT0⟩ : ∃ z : ByteArray, z = ⟨(tdL ms cs ps bs a n 1).toArray⟩ := ⟨_, rfl⟩
  obtain ⟨j0, hj0⟩ : ∃ z, z = (ffN ps a n 1).1 := ⟨_, rfl⟩
  obtain ⟨y0, hy0⟩ : ∃ z, z = (ffN ps a n 1).2 := ⟨_, rfl⟩
  obtain ⟨V0, hV0⟩ : ∃ z, z = ldV ms cs ps bs a k := ⟨_, rfl⟩
  obtain ⟨j1, hj1⟩ : ∃ z, z = (ldF ps a k).1 := ⟨_, rfl⟩
  obtain ⟨y1, hy1⟩ : ∃ z, z = (ldF ps a k).2 := ⟨_, rfl⟩
  obtain ⟨U0, hU0⟩ : ∃ z, z = Go.Proofs.Ytdhjmghfiodifaa.W.beS ⟨(tdL ms cs ps bs a 4 4).toArray⟩ % 4294967296 := ⟨_, rfl⟩
  obtain ⟨j2, hj2⟩ : ∃ z, z = (ffN ps a 4 4).1 := ⟨_, rfl⟩
  obtain ⟨y2, hy2⟩ : ∃ z, z = (ffN ps a 4 4).2 := ⟨_, rfl⟩
  obtain ⟨B0, hB0⟩ : ∃ z, z = (txR ms cs ps bs a (txN longest)).1 := ⟨_, rfl⟩
  obtain ⟨j3, hj3⟩ : ∃ z, z = (txR ms cs ps bs a (txN longest)).2.1.1 := ⟨_, rfl⟩
  obtain ⟨y3, hy3⟩ : ∃ z, z = (txR ms cs ps bs a (txN longest)).2.1.2 := ⟨_, rfl⟩
  obtain ⟨E0, hE0⟩ : ∃ z, z = (txR ms cs ps bs a (txN longest)).2.2 := ⟨_, rfl⟩
  have KA : Hid (∀ w', Below W.heap.size W w' → Calls Try.prog 10 #[.agg #[.slice am nm pm, .slice ac nc pc, .int .u64 (bs : Int), .slice ap np pp], .int .u32 (a : Int), .int .u32 (n : Int)] w' fun e w'' => e = .returned (.tuple #[.string T0, .agg #[.int .i64 j0, .int .u64 (y0 : Int)]]) ∧ Below w'.heap.size w' w'') := fun w' hb' => by rw [hT0, hj0, hy0]; exact gbytes10 _ _ _ bs a n ms cs ps w' (HG.out w' hb') ha hn
  have KB : Hid (∀ w', Below W.heap.size W w' → Calls Try.prog 11 #[.agg #[.slice am nm pm, .slice ac nc pc, .int .u64 (bs : Int), .slice ap np pp], .int .u32 (a : Int), .int .u32 (n : Int)] w' fun e w'' => e = .returned (.tuple #[.string T0, .agg #[.int .i64 j0, .int .u64 (y0 : Int)]]) ∧ Below w'.heap.size w' w'') := fun w' hb' => by rw [hT0, hj0, hy0]; exact rbytes11 _ _ _ bs a n ms cs ps w' (HSL.out w' hb') hfq hw ha hn
  have KC : Hid (∀ w', Below W.heap.size W w' → Calls Try.prog 12 #[.agg #[.slice am nm pm, .slice ac nc pc, .int .u64 (bs : Int), .slice ap np pp], .int .u32 (a : Int), .int .i64 k] w' fun e w'' => e = .returned (.tuple #[.int .u64 (V0 : Int), .agg #[.int .i64 j1, .int .u64 (y1 : Int)]]) ∧ Below w'.heap.size w' w'') := fun w' hb' => by rw [hV0, hj1, hy1]; exact gload12 _ _ _ bs a k ms cs ps w' (HG.out w' hb') ha
  have KD : Hid (∀ w', Below W.heap.size W w' → Calls Try.prog 13 #[.agg #[.slice am nm pm, .slice ac nc pc, .int .u64 (bs : Int), .slice ap np pp], .int .u32 (a : Int), .int .i64 k] w' fun e w'' => e = .returned (.tuple #[.int .u64 (V0 : Int), .agg #[.int .i64 j1, .int .u64 (y1 : Int)]]) ∧ Below w'.heap.size w' w'') := fun w' hb' => by rw [hV0, hj1, hy1]; exact rload13 _ _ _ bs a k ms cs ps w' (HSL.out w' hb') hfq hw ha
  have KE : Hid (∀ w', Below W.heap.size W w' → Calls Try.prog 14 #[.agg #[.slice am nm pm, .slice ac nc pc, .int .u64 (bs : Int), .slice ap np pp], .int .u32 (a : Int)] w' fun e w'' => e = .returned (.tuple #[.int .u32 (U0 : Int), .agg #[.int .i64 j2, .int .u64 (y2 : Int)]]) ∧ Below w'.heap.size w' w'') := fun w' hb' => by rw [hU0, hj2, hy2]; exact gfetch14 _ _ _ bs a ms cs ps w' (HG.out w' hb') ha
  have KF : Hid (∀ w', Below W.heap.size W w' → Calls Try.prog 15 #[.agg #[.slice am nm pm, .slice ac nc pc, .int .u64 (bs : Int), .slice ap np pp], .int .u32 (a : Int)] w' fun e w'' => e = .returned (.tuple #[.int .u32 (U0 : Int), .agg #[.int .i64 j2, .int .u64 (y2 : Int)]]) ∧ Below w'.heap.size w' w'') := fun w' hb' => by rw [hU0, hj2, hy2]; exact rfetch15 _ _ _ bs a ms cs ps w' (HSL.out w' hb') hfq hw ha
  have KH : Hid (∀ w', Below W.heap.size W w' → Calls Try.prog 16 #[.agg #[.slice am nm pm, .slice ac nc pc, .int .u64 (bs : Int), .slice ap np pp], .int .u32 (a : Int), .int .i64 longest] w' fun e w'' => e = .returned (.tuple #[.string B0, .agg #[.int .i64 j3, .int .u64 (y3 : Int)], .int .i64 E0]) ∧ Below w'.heap.size w' w'') := fun w' hb' => by rw [hB0, hj3, hy3, hE0]; exact gtext16 _ _ _ bs a longest ms cs ps w' (HG.out w' hb') ha
  have KI : Hid (∀ w', Below W.heap.size W w' → Calls Try.prog 17 #[.agg #[.slice am nm pm, .slice ac nc pc, .int .u64 (bs : Int), .slice ap np pp], .int .u32 (a : Int), .int .i64 longest] w' fun e w'' => e = .returned (.tuple #[.string B0, .agg #[.int .i64 j3, .int .u64 (y3 : Int)], .int .i64 E0]) ∧ Below w'.heap.size w' w'') := fun w' hb' => by rw [hB0, hj3, hy3, hE0]; exact rtext17 _ _ _ bs a longest ms cs ps w' (HSL.out w' hb') hfq hw ha
  clear hT0 hj0 hy0 hV0 hj1 hy1 hU0 hj2 hy2 hB0 hj3 hy3 hE0 HG HSL hfq hfw hsl hb hrc hw
  by_cases h5 : n ≤ 5000
  · have d1 : (n : Int) ≤ 5000 := by omega
    clear h5
    go_enter Try.func3, Try.ntmps3
    go_wp2_with fail
    refine K8.mono ?_
    rintro e w1 ⟨rfl, hb1⟩
    clear K8
    have D0 := D0.keep hb1
    obtain ⟨c0, c1, c2, c3⟩ := D0.cells
    have t1 := hb1
    clear hb1
    have R2 := KA.out w1 t1
    go_wp2_with fail
    refine R2.mono ?_
    rintro e v2 ⟨rfl, hb2⟩
    clear R2 KA
    obtain ⟨Wa2, W2, hWa2, hW2, ⟨qa2, qb2, qc2, qd2⟩, G2, bb2⟩ := newF v2 (.int .i64 j0) (.int .u64 (y0 : Int))
    have D0 := (D0.keep hb2).keep bb2
    obtain ⟨c0, c1, c2, c3⟩ := D0.cells
    have t2 := below_tr t1 (below_tr hb2 bb2)
    clear hb2 bb2 t1
    have R3 := KB.out W2 t2
    go_wp2_with fail
    refine R3.mono ?_
    rintro e v3 ⟨rfl, hb3⟩
    clear R3 KB
    obtain ⟨Wa3, W3, hWa3, hW3, ⟨qa3, qb3, qc3, qd3⟩, G3, bb3⟩ := newF v3 (.int .i64 j0) (.int .u64 (y0 : Int))
    have D0 := (D0.keep hb3).keep bb3
    obtain ⟨c0, c1, c2, c3⟩ := D0.cells
    have t3 := below_tr t2 (below_tr hb3 bb3)
    have G2 := (G2.keep hb3).keep bb3
    clear hb3 bb3 t2
    have R4 := KC.out W3 t3
    go_wp2_with fail
    refine R4.mono ?_
    rintro e v4 ⟨rfl, hb4⟩
    clear R4 KC
    obtain ⟨Wa4, W4, hWa4, hW4, ⟨qa4, qb4, qc4, qd4⟩, G4, bb4⟩ := newF v4 (.int .i64 j1) (.int .u64 (y1 : Int))
    have D0 := (D0.keep hb4).keep bb4
    obtain ⟨c0, c1, c2, c3⟩ := D0.cells
    have t4 := below_tr t3 (below_tr hb4 bb4)
    have G2 := (G2.keep hb4).keep bb4
    have G3 := (G3.keep hb4).keep bb4
    clear hb4 bb4 t3
    have R5 := KD.out W4 t4
    go_wp2_with fail
    refine R5.mono ?_
    rintro e v5 ⟨rfl, hb5⟩
    clear R5 KD
    obtain ⟨Wa5, W5, hWa5, hW5, ⟨qa5, qb5, qc5, qd5⟩, G5, bb5⟩ := newF v5 (.int .i64 j1) (.int .u64 (y1 : Int))
    have D0 := (D0.keep hb5).keep bb5
    obtain ⟨c0, c1, c2, c3⟩ := D0.cells
    have t5 := below_tr t4 (below_tr hb5 bb5)
    have G2 := (G2.keep hb5).keep bb5
    have G3 := (G3.keep hb5).keep bb5
    have G4 := (G4.keep hb5).keep bb5
    clear hb5 bb5 t4
    have R6 := KE.out W5 t5
    go_wp2_with fail
    refine R6.mono ?_
    rintro e v6 ⟨rfl, hb6⟩
    clear R6 KE
    obtain ⟨Wa6, W6, hWa6, hW6, ⟨qa6, qb6, qc6, qd6⟩, G6, bb6⟩ := newF v6 (.int .i64 j2) (.int .u64 (y2 : Int))
    have D0 := (D0.keep hb6).keep bb6
    obtain ⟨c0, c1, c2, c3⟩ := D0.cells
    have t6 := below_tr t5 (below_tr hb6 bb6)
    have G2 := (G2.keep hb6).keep bb6
    have G3 := (G3.keep hb6).keep bb6
    have G4 := (G4.keep hb6).keep bb6
    have G5 := (G5.keep hb6).keep bb6
    clear hb6 bb6 t5
    have R7 := KF.out W6 t6
    go_wp2_with fail
    refine R7.mono ?_
    rintro e v7 ⟨rfl, hb7⟩
    clear R7 KF
    obtain ⟨Wa7, W7, hWa7, hW7, ⟨qa7, qb7, qc7, qd7⟩, G7, bb7⟩ := newF v7 (.int .i64 j2) (.int .u64 (y2 : Int))
    have D0 := (D0.keep hb7).keep bb7
    obtain ⟨c0, c1, c2, c3⟩ := D0.cells
    have t7 := below_tr t6 (below_tr hb7 bb7)
    have G2 := (G2.keep hb7).keep bb7
    have G3 := (G3.keep hb7).keep bb7
    have G4 := (G4.keep hb7).keep bb7
    have G5 := (G5.keep hb7).keep bb7
    have G6 := (G6.keep hb7).keep bb7
    clear hb7 bb7 t6
    have R8 := KH.out W7 t7
    go_wp2_with fail
    refine R8.mono ?_
    rintro e v8 ⟨rfl, hb8⟩
    clear R8 KH
    obtain ⟨Wa8, W8, hWa8, hW8, ⟨qa8, qb8, qc8, qd8⟩, G8, bb8⟩ := newF v8 (.int .i64 j3) (.int .u64 (y3 : Int))
    have D0 := (D0.keep hb8).keep bb8
    obtain ⟨c0, c1, c2, c3⟩ := D0.cells
    have t8 := below_tr t7 (below_tr hb8 bb8)
    have G2 := (G2.keep hb8).keep bb8
    have G3 := (G3.keep hb8).keep bb8
    have G4 := (G4.keep hb8).keep bb8
    have G5 := (G5.keep hb8).keep bb8
    have G6 := (G6.keep hb8).keep bb8
    have G7 := (G7.keep hb8).keep bb8
    clear hb8 bb8 t7
    have R9 := KI.out W8 t8
    go_wp2_with fail
    refine R9.mono ?_
    rintro e v9 ⟨rfl, hb9⟩
    clear R9 KI
    obtain ⟨Wa9, W9, hWa9, hW9, ⟨qa9, qb9, qc9, qd9⟩, G9, bb9⟩ := newF v9 (.int .i64 j3) (.int .u64 (y3 : Int))
    have D0 := (D0.keep hb9).keep bb9
    obtain ⟨c0, c1, c2, c3⟩ := D0.cells
    have t9 := below_tr t8 (below_tr hb9 bb9)
    have G2 := (G2.keep hb9).keep bb9
    have G3 := (G3.keep hb9).keep bb9
    have G4 := (G4.keep hb9).keep bb9
    have G5 := (G5.keep hb9).keep bb9
    have G6 := (G6.keep hb9).keep bb9
    have G7 := (G7.keep hb9).keep bb9
    have G8 := (G8.keep hb9).keep bb9
    clear hb9 bb9 t8
    have p2 := G2.c0
    have r2 := G2.c1
    have p3 := G3.c0
    have r3 := G3.c1
    have p4 := G4.c0
    have r4 := G4.c1
    have p5 := G5.c0
    have r5 := G5.c1
    have p6 := G6.c0
    have r6 := G6.c1
    have p7 := G7.c0
    have r7 := G7.c1
    have p8 := G8.c0
    have r8 := G8.c1
    have p9 := G9.c0
    have r9 := G9.c1
    go_wp2_with fail
    refine (awake9 _).mono ?_
    rintro e wz ⟨rfl, hbz⟩
    go_wp2
    go_ret
    exact ⟨rfl, below_tr HB.out (below_tr t9 hbz)⟩
  by_cases h6 : n ≤ 65536
  · have d1 : (5000 : Int) < (n : Int) := by omega
    have d2 : (n : Int) ≤ 65536 := by omega
    clear h5 h6 KA KB KC KD KE KF KH KI
    go_enter Try.func3, Try.ntmps3
    go_wp2_with fail
    refine K8.mono ?_
    rintro e w1 ⟨rfl, hb1⟩
    go_wp2_with fail
    refine (awake9 w1).mono ?_
    rintro e wz ⟨rfl, hbz⟩
    go_wp2
    go_ret
    exact ⟨rfl, below_tr HB.out (below_tr hb1 hbz)⟩
  have d1 : (5000 : Int) < (n : Int) := by omega
  have d2 : (65536 : Int) < (n : Int) := by omega
  clear h5 h6
  go_enter Try.func3, Try.ntmps3
  go_wp2_with fail
  refine K8.mono ?_
  rintro e w1 ⟨rfl, hb1⟩
  clear K8
  have D0 := D0.keep hb1
  obtain ⟨c0, c1, c2, c3⟩ := D0.cells
  have t1 := hb1
  clear hb1
  have R2 := KA.out w1 t1
  go_wp2_with fail
  refine R2.mono ?_
  rintro e v2 ⟨rfl, hb2⟩
  clear R2 KA
  obtain ⟨Wa2, W2, hWa2, hW2, ⟨qa2, qb2, qc2, qd2⟩, G2, bb2⟩ := newF v2 (.int .i64 j0) (.int .u64 (y0 : Int))
  have D0 := (D0.keep hb2).keep bb2
  obtain ⟨c0, c1, c2, c3⟩ := D0.cells
  have t2 := below_tr t1 (below_tr hb2 bb2)
  clear hb2 bb2 t1
  have R3 := KB.out W2 t2
  go_wp2_with fail
  refine R3.mono ?_
  rintro e v3 ⟨rfl, hb3⟩
  clear R3 KB
  obtain ⟨Wa3, W3, hWa3, hW3, ⟨qa3, qb3, qc3, qd3⟩, G3, bb3⟩ := newF v3 (.int .i64 j0) (.int .u64 (y0 : Int))
  have D0 := (D0.keep hb3).keep bb3
  obtain ⟨c0, c1, c2, c3⟩ := D0.cells
  have t3 := below_tr t2 (below_tr hb3 bb3)
  have G2 := (G2.keep hb3).keep bb3
  clear hb3 bb3 t2
  have R4 := KC.out W3 t3
  go_wp2_with fail
  refine R4.mono ?_
  rintro e v4 ⟨rfl, hb4⟩
  clear R4 KC
  obtain ⟨Wa4, W4, hWa4, hW4, ⟨qa4, qb4, qc4, qd4⟩, G4, bb4⟩ := newF v4 (.int .i64 j1) (.int .u64 (y1 : Int))
  have D0 := (D0.keep hb4).keep bb4
  obtain ⟨c0, c1, c2, c3⟩ := D0.cells
  have t4 := below_tr t3 (below_tr hb4 bb4)
  have G2 := (G2.keep hb4).keep bb4
  have G3 := (G3.keep hb4).keep bb4
  clear hb4 bb4 t3
  have R5 := KD.out W4 t4
  go_wp2_with fail
  refine R5.mono ?_
  rintro e v5 ⟨rfl, hb5⟩
  clear R5 KD
  obtain ⟨Wa5, W5, hWa5, hW5, ⟨qa5, qb5, qc5, qd5⟩, G5, bb5⟩ := newF v5 (.int .i64 j1) (.int .u64 (y1 : Int))
  have D0 := (D0.keep hb5).keep bb5
  obtain ⟨c0, c1, c2, c3⟩ := D0.cells
  have t5 := below_tr t4 (below_tr hb5 bb5)
  have G2 := (G2.keep hb5).keep bb5
  have G3 := (G3.keep hb5).keep bb5
  have G4 := (G4.keep hb5).keep bb5
  clear hb5 bb5 t4
  have R6 := KE.out W5 t5
  go_wp2_with fail
  refine R6.mono ?_
  rintro e v6 ⟨rfl, hb6⟩
  clear R6 KE
  obtain ⟨Wa6, W6, hWa6, hW6, ⟨qa6, qb6, qc6, qd6⟩, G6, bb6⟩ := newF v6 (.int .i64 j2) (.int .u64 (y2 : Int))
  have D0 := (D0.keep hb6).keep bb6
  obtain ⟨c0, c1, c2, c3⟩ := D0.cells
  have t6 := below_tr t5 (below_tr hb6 bb6)
  have G2 := (G2.keep hb6).keep bb6
  have G3 := (G3.keep hb6).keep bb6
  have G4 := (G4.keep hb6).keep bb6
  have G5 := (G5.keep hb6).keep bb6
  clear hb6 bb6 t5
  have R7 := KF.out W6 t6
  go_wp2_with fail
  refine R7.mono ?_
  rintro e v7 ⟨rfl, hb7⟩
  clear R7 KF
  obtain ⟨Wa7, W7, hWa7, hW7, ⟨qa7, qb7, qc7, qd7⟩, G7, bb7⟩ := newF v7 (.int .i64 j2) (.int .u64 (y2 : Int))
  have D0 := (D0.keep hb7).keep bb7
  obtain ⟨c0, c1, c2, c3⟩ := D0.cells
  have t7 := below_tr t6 (below_tr hb7 bb7)
  have G2 := (G2.keep hb7).keep bb7
  have G3 := (G3.keep hb7).keep bb7
  have G4 := (G4.keep hb7).keep bb7
  have G5 := (G5.keep hb7).keep bb7
  have G6 := (G6.keep hb7).keep bb7
  clear hb7 bb7 t6
  have R8 := KH.out W7 t7
  go_wp2_with fail
  refine R8.mono ?_
  rintro e v8 ⟨rfl, hb8⟩
  clear R8 KH
  obtain ⟨Wa8, W8, hWa8, hW8, ⟨qa8, qb8, qc8, qd8⟩, G8, bb8⟩ := newF v8 (.int .i64 j3) (.int .u64 (y3 : Int))
  have D0 := (D0.keep hb8).keep bb8
  obtain ⟨c0, c1, c2, c3⟩ := D0.cells
  have t8 := below_tr t7 (below_tr hb8 bb8)
  have G2 := (G2.keep hb8).keep bb8
  have G3 := (G3.keep hb8).keep bb8
  have G4 := (G4.keep hb8).keep bb8
  have G5 := (G5.keep hb8).keep bb8
  have G6 := (G6.keep hb8).keep bb8
  have G7 := (G7.keep hb8).keep bb8
  clear hb8 bb8 t7
  have R9 := KI.out W8 t8
  go_wp2_with fail
  refine R9.mono ?_
  rintro e v9 ⟨rfl, hb9⟩
  clear R9 KI
  obtain ⟨Wa9, W9, hWa9, hW9, ⟨qa9, qb9, qc9, qd9⟩, G9, bb9⟩ := newF v9 (.int .i64 j3) (.int .u64 (y3 : Int))
  have D0 := (D0.keep hb9).keep bb9
  obtain ⟨c0, c1, c2, c3⟩ := D0.cells
  have t9 := below_tr t8 (below_tr hb9 bb9)
  have G2 := (G2.keep hb9).keep bb9
  have G3 := (G3.keep hb9).keep bb9
  have G4 := (G4.keep hb9).keep bb9
  have G5 := (G5.keep hb9).keep bb9
  have G6 := (G6.keep hb9).keep bb9
  have G7 := (G7.keep hb9).keep bb9
  have G8 := (G8.keep hb9).keep bb9
  clear hb9 bb9 t8
  have p2 := G2.c0
  have r2 := G2.c1
  have p3 := G3.c0
  have r3 := G3.c1
  have p4 := G4.c0
  have r4 := G4.c1
  have p5 := G5.c0
  have r5 := G5.c1
  have p6 := G6.c0
  have r6 := G6.c1
  have p7 := G7.c0
  have r7 := G7.c1
  have p8 := G8.c0
  have r8 := G8.c1
  have p9 := G9.c0
  have r9 := G9.c1
  go_wp2_with fail
  refine (awake9 _).mono ?_
  rintro e wz ⟨rfl, hbz⟩
  go_wp2
  go_ret
  exact ⟨rfl, below_tr HB.out (below_tr t9 hbz)⟩
end Go.Proofs.Ytdhjmghfiodifaa
