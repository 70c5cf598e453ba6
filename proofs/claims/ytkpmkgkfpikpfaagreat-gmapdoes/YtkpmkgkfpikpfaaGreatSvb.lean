/- What is proved here: a space and the results' space lie apart. -/
import Derived.Test.YtkpmkgkfpikpfaaGreatSu
import Derived.Test.YtkpmkgkfpikpfaaGreatSv
import Derived.Test.YtkpmkgkfpikpfaaGreatSz
import Derived.Test.YtkpmkgkfpikpfaaGreatSw
import Derived.Test.YtkpmkgkfpikpfaaGreatStj
namespace Go.Proofs.YtkpmkgkfpikpfaaGreat
open Go.RowKit
set_option linter.unusedVariables false
set_option linter.unusedSimpArgs false
set_option maxRecDepth 100000
structure Sp (w V : World) (nG nR : Nat) (y0 y1 y2 y3 y4 y5 : Value) : Prop where
 bG : B6 V nG 32 y0 y1 y2 y3 y4 y5
 bR : B6 V nR 32 (.slice none 0 0) (.slice none 0 0) (.int .u64 0) (.slice none 0 0) (.int .u32 0) (.int .u32 0)
 bl : Below w.heap.size w V
 ne : w.heap.size ≤ nG ∧ nG < nR
theorem Sp.keep {w V V' : World} {nG nR : Nat} {y0 y1 y2 y3 y4 y5 : Value} (h : Sp w V nG nR y0 y1 y2 y3 y4 y5) (hb : Below V.heap.size V V') : Sp w V' nG nR y0 y1 y2 y3 y4 y5 := ⟨h.bG.keep hb, h.bR.keep hb, below_tr h.bl hb, h.ne⟩
theorem Sp.lay {w V : World} {nG nR : Nat} {y0 y1 y2 y3 y4 y5 : Value} (h : Sp w V nG nR y0 y1 y2 y3 y4 y5) (z0 z1 z2 z3 : Value) : ∃ Va V' nL, V.alloc (.cells #[.slice none 0 0, .slice none 0 0, .int .u64 0, .slice none 0 0] 29) = Va ∧ V.heap.size = nL ∧ B4 Va nL 29 (.slice none 0 0) (.slice none 0 0) (.int .u64 0) (.slice none 0 0) ∧ S4 Va nL z0 z1 z2 z3 = V' ∧ B4 V' nL 29 z0 z1 z2 z3 ∧ Sp w V' nG nR y0 y1 y2 y3 y4 y5 ∧ Below V.heap.size V V' ∧ nR < nL := by
 have b0 : B4 (V.alloc (.cells #[.slice none 0 0, .slice none 0 0, .int .u64 0, .slice none 0 0] 29)) V.heap.size 29 (.slice none 0 0) (.slice none 0 0) (.int .u64 0) (.slice none 0 0) := B4.new V 29 _ _ _ _
 have hb : Below V.heap.size V (S4 (V.alloc (.cells #[.slice none 0 0, .slice none 0 0, .int .u64 0, .slice none 0 0] 29)) V.heap.size z0 z1 z2 z3) := S4.below ((Below.refl _ _).alloc (Nat.le_refl _) _) (Nat.le_refl _) _ _ _ _
 exact ⟨_, _, _, rfl, rfl, b0, rfl, b0.S4 _ _ _ _, h.keep hb, hb, h.bR.lt⟩
theorem Sp.setL {w V : World} {nG nR nL : Nat} {y0 y1 y2 y3 y4 y5 : Value} (h : Sp w V nG nR y0 y1 y2 y3 y4 y5) (hn : nR < nL) (z0 z1 z2 z3 : Value) : Sp w (S4 V nL z0 z1 z2 z3) nG nR y0 y1 y2 y3 y4 y5 := by
 have := h.ne
 exact ⟨(S4.other V nL nG _ _ _ _ (by omega)).trans h.bG, (S4.other V nL nR _ _ _ _ (by omega)).trans h.bR, S4.below h.bl (by omega) _ _ _ _, h.ne⟩
theorem Sp.setG {w V : World} {nG nR : Nat} {y0 y1 y2 y3 y4 y5 : Value} (h : Sp w V nG nR y0 y1 y2 y3 y4 y5) (z0 z1 z2 z3 : Value) : Sp w (S4 V nG z0 z1 z2 z3) nG nR z0 z1 z2 z3 y4 y5 := by
 have := h.ne
 exact ⟨h.bG.set4 _ _ _ _, (S4.other V nG nR _ _ _ _ (by omega)).trans h.bR, S4.below h.bl (by omega) _ _ _ _, h.ne⟩
theorem Sp.setE {w V : World} {nG nR : Nat} {y0 y1 y2 y3 y4 y5 : Value} (h : Sp w V nG nR y0 y1 y2 y3 y4 y5) (z : Value) : Sp w (V.setCell ⟨nG, 5, none⟩ z) nG nR y0 y1 y2 y3 y4 z := by
 have := h.ne
 exact ⟨heap_setCell_same _ nG 5 _ 32 z h.bG, (heap_other V nG 5 nR _ (by omega)).trans h.bR, h.bl.setCell (by simp; omega) _, h.ne⟩
theorem un_ok {ms cs ps : List (Nat × Int)} {bs f n : Nat} (h0 : n ≠ 0) (h : f + n ≤ 1048576) : (unmapR ms cs ps bs f n).1 = 0 := by
 have e : gpagesOk f n = true := decide_eq_true ⟨h0, h⟩
 unfold unmapR
 rw [if_neg (by rw [e]; decide)]
set_option maxHeartbeats 4000000 in
theorem rbrk18 (vm vc vp : Value) (bs st en a : Nat) (ms cs ps : List (Nat × Int)) (w : World) (hsl : SlG w vm vc vp ms cs ps) (hrc : ∀ y ∈ cs, y.1 < 18446744073709551616) (hw : Words cs) (hf : FitG ms cs ps bs) (ha : a < 4294967296) (hen : en < 4294967296) :
  Calls Tryz.prog 18 #[.agg #[vm, vc, .int .u64 (bs : Int), vp, .int .u32 (st : Int), .int .u32 (en : Int)], .int .u32 (a : Int)] w (if (heapR ms cs ps bs st en a).1 = 0 then BTold (heapR ms cs ps bs st en a).2.1 (heapR ms cs ps bs st en a).2.2.1 (heapR ms cs ps bs st en a).2.2.2 bs st a w else BTold ms cs ps bs st en w) := by
 obtain ⟨am, nm, pm, ac, nc, pc, ap, np, pp, rfl, rfl, rfl⟩ := hsl.shape
 obtain ⟨Xa, X, nR, hXa, hX, hnR, BG, BR, hb, l1, l2⟩ := new2S w (.slice am nm pm) (.slice ac nc pc) (.int .u64 (bs : Int)) (.slice ap np pp) (.int .u32 (st : Int)) (.int .u32 (en : Int))
 obtain ⟨nG, hnG⟩ : ∃ z, w.heap.size = z := ⟨_, rfl⟩
 rw [hnG] at BG l1
 obtain ⟨c0, c1, c2, c3, c4, c5⟩ := BG.cells
 have HNE : Hid (w.heap.size = nG ∧ nG < nR ∧ nR < X.heap.size) := ⟨hnG, l1, l2⟩
 have SP0 : Sp w X nG nR (.slice am nm pm) (.slice ac nc pc) (.int .u64 (bs : Int)) (.slice ap np pp) (.int .u32 (st : Int)) (.int .u32 (en : Int)) := ⟨BG, BR, hb, by omega⟩
 have HSX : Hid (SlG X (.slice am nm pm) (.slice ac nc pc) (.slice ap np pp) ms cs ps) := hsl.keep hb
 have HPL : Hid (∀ x ∈ ps, x.1 < 4294967296) := fun x hx => by have := (hf.pg x hx).1; omega
 have HPN : Hid (ps.length ≤ 1073741824) := by have := hf.lp; show _ ≤ _; omega
 obtain ⟨o, ho⟩ : ∃ z, z = pgN en := ⟨_, rfl⟩
 obtain ⟨q, hq⟩ : ∃ z, z = pgN a := ⟨_, rfl⟩
 have lo : o ≤ 1048576 := by rw [ho, pgN]; omega
 have lq : q ≤ 1048576 := by rw [hq, pgN]; omega
 have KE : Hid (∀ w', Calls Tryz.prog 20 #[.int .u32 (en : Int)] w' fun e w'' => e = .returned (.int .u32 (o : Int)) ∧ w'' = w') := fun w' => by rw [ho]; exact count20 en w' hen
 have KA : Hid (∀ w', Calls Tryz.prog 20 #[.int .u32 (a : Int)] w' fun e w'' => e = .returned (.int .u32 (q : Int)) ∧ w'' = w') := fun w' => by rw [hq]; exact count20 a w' ha
 obtain ⟨R, hR⟩ : ∃ z, z = heapR ms cs ps bs st en a := ⟨_, rfl⟩
 rw [← hR]
 have HR0 : Hid (R = if a < st then (1, ms, cs, ps) else if o < q then grR ms cs ps bs o q else if q < o then unmapR ms cs ps bs q (o - q) else (0, ms, cs, ps)) := by show _ = _; rw [hR, heapR, ← ho, ← hq]
 have HM : Hid (∀ w' d : _, Below X.heap.size X w' → d < 4294967296 → Calls Tryz.prog 32 #[.agg #[.slice am nm pm, .slice ac nc pc, .int .u64 (bs : Int), .slice ap np pp], .int .u32 (o : Int), .int .u32 ((d : Nat) : Int), .int .i64 3] w' (GTold (mapR ms cs ps bs o d 3) bs w')) := fun w' d hb' hd => told19 _ _ _ ms cs ps bs o d 3 w' ((hsl.keep hb).keep hb') hrc hw (by omega) hd hf
 have HU : Hid (∀ w' d : _, Below X.heap.size X w' → d < 4294967296 → Calls Tryz.prog 34 #[.agg #[.slice am nm pm, .slice ac nc pc, .int .u64 (bs : Int), .slice ap np pp], .int .u32 (q : Int), .int .u32 ((d : Nat) : Int)] w' (GTold (unmapR ms cs ps bs q d) bs w')) := fun w' d hb' hd => told21 _ _ _ ms cs ps bs q d 0 w' ((hsl.keep hb).keep hb') hrc hw (by omega) hd hf
 clear hR ho hq hsl hrc hw hf BG BR hb
 by_cases h1 : a < st
 ·have hR1 : R = (1, ms, cs, ps) := by have h := HR0.out; rw [if_pos h1] at h; exact h
  rw [hR1, if_neg (by show ¬ (1 : Int) = 0; decide)]
  have a1 : (a : Int) < (st : Int) := by omega
  clear HR0 hR1 HM HU HPL HPN h1
  go_enter Tryz.func18, Tryz.ntmps18
  go_wp2_with fail
  refine (KE.out _).mono ?_
  rintro e w8 ⟨rfl, rfl⟩
  go_wp2_with fail
  refine (KA.out _).mono ?_
  rintro e w9 ⟨rfl, rfl⟩
  have SP := SP0
  have hs3 := HSX.out
  clear SP0 HSX
  obtain ⟨m0, m1, m2, m3, m4, m5⟩ := SP.bG.cells
  obtain ⟨q0, q1, q2, q3, q4, q5⟩ := SP.bR.cells
  obtain ⟨f0, f1, f2, f3, f4, f5⟩ := SP.bR.frees
  have HE' : Hid _ := SP.bR.set6 (.slice am nm pm) (.slice ac nc pc) (.int .u64 (bs : Int)) (.slice ap np pp) (.int .u32 (st : Int)) (.int .u32 (en : Int))
  have HS' : Hid _ := slg_S6 hs3 SP.bR am ac ap nm pm nc pc np pp (bs : Int) (st : Int) (en : Int)
  have HW' : Hid _ := S6.below (B := w.heap.size) (b := nR) SP.bl (by have := SP.ne; omega) (.slice am nm pm) (.slice ac nc pc) (.int .u64 (bs : Int)) (.slice ap np pp) (.int .u32 (st : Int)) (.int .u32 (en : Int))
  clear SP hs3
  go_wp2
  go_region
  all_goals
   go_wp2
   obtain ⟨u0, u1, u2, u3, u4, u5⟩ := B6.cells HE'.out
   unfold S6 S4 at u0 u1 u2 u3 u4 u5
   refine bodyPost_ret (v := .tuple #[.agg #[.slice am nm pm, .slice ac nc pc, .int .u64 (bs : Int), .slice ap np pp, .int .u32 (st : Int), .int .u32 (en : Int)], .int .u32 (en : Int)]) ?_ rfl ⟨am, nm, pm, ac, nc, pc, ap, np, pp, rfl, SlG.keep HS'.out (Below.refl _ _).drew, HW'.out.drew⟩
   rw [results_cell_tmp rfl]; simp [go_sem, u0, u1, u2, u3, u4, u5]
 have a2 : decide ((a : Int) < (st : Int)) = false := decide_eq_false (by omega)
 have a3 : (a < st) = False := eq_false h1
 have HR0 : Hid (R = if o < q then grR ms cs ps bs o q else if q < o then unmapR ms cs ps bs q (o - q) else (0, ms, cs, ps)) := by have h := HR0.out; rw [if_neg h1] at h; exact h
 clear h1
 by_cases h2 : o < q
 ·have b1 : (o : Int) < (q : Int) := by omega
  have HR0 : Hid (R = grR ms cs ps bs o q) := by have h := HR0.out; rw [if_pos h2] at h; exact h
  obtain ⟨d, hd⟩ : ∃ z, z = q - o := ⟨_, rfl⟩
  have y1 : IntKind.u32.wrap ((q : Int) - (o : Int)) = (d : Int) := by rw [IntKind.wrap_u32]; omega
  have y2 : ((q : Int) - (o : Int)) % 4294967296 = (d : Int) := by omega
  have y3 : (q : Int) - (o : Int) = (d : Int) := by omega
  have y4 : decide ((q : Int) < (o : Int)) = false := decide_eq_false (by omega)
  have y5 : (q < o) = False := eq_false (by omega)
  by_cases h3 : 458752 < q
  ·have hR1 : R = (1, ms, cs, ps) := by have h := HR0.out; rw [grR, if_pos (Or.inl h3)] at h; exact h
   rw [hR1, if_neg (by show ¬ (1 : Int) = 0; decide)]
   have b2 : (458752 : Int) < (q : Int) := by omega
   clear HR0 hR1 HM HU HPL HPN hd h2 h3
   go_enter Tryz.func18, Tryz.ntmps18
   go_wp2_with fail
   refine (KE.out _).mono ?_
   rintro e w8 ⟨rfl, rfl⟩
   go_wp2_with fail
   refine (KA.out _).mono ?_
   rintro e w9 ⟨rfl, rfl⟩
   have SP := SP0
   have hs3 := HSX.out
   clear SP0 HSX
   obtain ⟨m0, m1, m2, m3, m4, m5⟩ := SP.bG.cells
   obtain ⟨q0, q1, q2, q3, q4, q5⟩ := SP.bR.cells
   obtain ⟨f0, f1, f2, f3, f4, f5⟩ := SP.bR.frees
   have HE' : Hid _ := SP.bR.set6 (.slice am nm pm) (.slice ac nc pc) (.int .u64 (bs : Int)) (.slice ap np pp) (.int .u32 (st : Int)) (.int .u32 (en : Int))
   have HS' : Hid _ := slg_S6 hs3 SP.bR am ac ap nm pm nc pc np pp (bs : Int) (st : Int) (en : Int)
   have HW' : Hid _ := S6.below (B := w.heap.size) (b := nR) SP.bl (by have := SP.ne; omega) (.slice am nm pm) (.slice ac nc pc) (.int .u64 (bs : Int)) (.slice ap np pp) (.int .u32 (st : Int)) (.int .u32 (en : Int))
   clear SP hs3
   go_wp2
   go_region
   all_goals
    go_wp2
    obtain ⟨u0, u1, u2, u3, u4, u5⟩ := B6.cells HE'.out
    unfold S6 S4 at u0 u1 u2 u3 u4 u5
    refine bodyPost_ret (v := .tuple #[.agg #[.slice am nm pm, .slice ac nc pc, .int .u64 (bs : Int), .slice ap np pp, .int .u32 (st : Int), .int .u32 (en : Int)], .int .u32 (en : Int)]) ?_ rfl ⟨am, nm, pm, ac, nc, pc, ap, np, pp, rfl, SlG.keep HS'.out (Below.refl _ _).drew, HW'.out.drew⟩
    rw [results_cell_tmp rfl]; simp [go_sem, u0, u1, u2, u3, u4, u5]
  have b2 : decide ((458752 : Int) < (q : Int)) = false := decide_eq_false (by omega)
  have b3 : (458752 < q) = False := eq_false h3
  cases hsb : someB ps o d with
  | true =>
   have hR1 : R = (1, ms, cs, ps) := by have h := HR0.out; rw [grR, ← hd, if_pos (Or.inr hsb)] at h; exact h
   rw [hR1, if_neg (by show ¬ (1 : Int) = 0; decide)]
   have HSB : Hid (someB ps o d = true) := hsb
   obtain ⟨Q, hQ⟩ : ∃ z, z = mapR ms cs ps bs o d 3 := ⟨_, rfl⟩
   have HMd : Hid (∀ w', Below X.heap.size X w' → Calls Tryz.prog 32 #[.agg #[.slice am nm pm, .slice ac nc pc, .int .u64 (bs : Int), .slice ap np pp], .int .u32 (o : Int), .int .u32 (d : Int), .int .i64 3] w' (GTold Q bs w')) := fun w' hb' => by have h := HM.out w' d hb' (by omega); rw [← hQ] at h; exact h
   obtain ⟨rc, rms, rcs, rps⟩ := Q
   clear HR0 hR1 hsb hd h2 h3 hQ HM HU
   go_enter Tryz.func18, Tryz.ntmps18
   go_wp2_with fail
   refine (KE.out _).mono ?_
   rintro e w8 ⟨rfl, rfl⟩
   go_wp2_with fail
   refine (KA.out _).mono ?_
   rintro e w9 ⟨rfl, rfl⟩
   obtain ⟨Wa, W1, nL, hWa, hnL, BL0, hW1, BL, SP1, bA, lt1⟩ := SP0.lay (.slice am nm pm) (.slice ac nc pc) (.int .u64 (bs : Int)) (.slice ap np pp)
   unfold S4 at hW1
   obtain ⟨g0, g1, g2, g3⟩ := BL0.cells
   obtain ⟨e0, e1, e2, e3⟩ := BL0.frees
   obtain ⟨d0, d1, d2, d3⟩ := BL.cells
   obtain ⟨c0, c1, c2, c3, c4, c5⟩ := SP0.bG.cells
   clear BL0 c0 c1 c2 c3 c4 c5
   go_wp2_with fail
   refine (HMd.out W1 bA).mono ?_
   rintro e w2 ⟨x1, x2, x3, x4, x5, x6, x7, x8, x9, rfl, hs2, hb2⟩
   obtain ⟨Wb, W4, nX, hWb, hnX, BX0, hW4, BX, SP4, bB, lt4⟩ := (SP1.keep hb2).lay (.slice x1 x2 x3) (.slice x4 x5 x6) (.int .u64 (bs : Int)) (.slice x7 x8 x9)
   have bC : Below w9.heap.size w9 W4 := below_tr bA (below_tr hb2 bB)
   have BL4 := (BL.keep hb2).keep bB
   have KS := rsome30 (.slice am nm pm) (.slice ac nc pc) (.slice ap np pp) bs o d ps W4 ⟨_, _, _, rfl⟩ ⟨_, _, _, rfl⟩ (HSX.out.keep bC).2.2 HPL.out HPN.out
   rw [HSB.out] at KS
   unfold S4 at hW4
   obtain ⟨k0, k1, k2, k3⟩ := BX0.cells
   obtain ⟨l0, l1, l2, l3⟩ := BX0.frees
   obtain ⟨i0, i1, i2, i3⟩ := BL4.cells
   have HBX : Hid _ := BX
   have HBL : Hid _ := BL4
   have HSP : Hid _ := SP4
   have HS2 : Hid _ := hs2.keep bB
   have HBC : Hid (Below w9.heap.size w9 W4) := bC
   have HLT : Hid (nR < nL ∧ nL < nX) := ⟨lt1, by have := BL.lt; have := hb2.size; omega⟩
   clear BX0 BX SP4 SP1 BL BL4 hs2 hb2 bB bA bC HMd hWa hW1 g0 g1 g2 g3 e0 e1 e2 e3 d0 d1 d2 d3 lt1 lt4 hnL SP0
   go_wp2_with fail
   refine KS.mono ?_
   rintro e w5 ⟨rfl, hb5⟩
   clear KS hnX
   have SP : Sp w w5 nG nR (.slice am nm pm) (.slice ac nc pc) (.int .u64 (bs : Int)) (.slice ap np pp) (.int .u32 (st : Int)) (.int .u32 (en : Int)) := HSP.out.keep hb5
   have hs3 := HSX.out.keep (below_tr HBC.out hb5)
   clear HBX HBL HSP HS2 HBC HLT HSX k0 k1 k2 k3 l0 l1 l2 l3 i0 i1 i2 i3
   obtain ⟨m0, m1, m2, m3, m4, m5⟩ := SP.bG.cells
   obtain ⟨q0, q1, q2, q3, q4, q5⟩ := SP.bR.cells
   obtain ⟨f0, f1, f2, f3, f4, f5⟩ := SP.bR.frees
   have HE' : Hid _ := SP.bR.set6 (.slice am nm pm) (.slice ac nc pc) (.int .u64 (bs : Int)) (.slice ap np pp) (.int .u32 (st : Int)) (.int .u32 (en : Int))
   have HS' : Hid _ := slg_S6 hs3 SP.bR am ac ap nm pm nc pc np pp (bs : Int) (st : Int) (en : Int)
   have HW' : Hid _ := S6.below (B := w.heap.size) (b := nR) SP.bl (by have := SP.ne; omega) (.slice am nm pm) (.slice ac nc pc) (.int .u64 (bs : Int)) (.slice ap np pp) (.int .u32 (st : Int)) (.int .u32 (en : Int))
   clear SP hs3
   go_wp2
   go_region
   all_goals
    go_wp2
    obtain ⟨u0, u1, u2, u3, u4, u5⟩ := B6.cells HE'.out
    unfold S6 S4 at u0 u1 u2 u3 u4 u5
    refine bodyPost_ret (v := .tuple #[.agg #[.slice am nm pm, .slice ac nc pc, .int .u64 (bs : Int), .slice ap np pp, .int .u32 (st : Int), .int .u32 (en : Int)], .int .u32 (en : Int)]) ?_ rfl ⟨am, nm, pm, ac, nc, pc, ap, np, pp, rfl, SlG.keep HS'.out (Below.refl _ _).drew, HW'.out.drew⟩
    rw [results_cell_tmp rfl]; simp [go_sem, u0, u1, u2, u3, u4, u5]
  | false =>
   have HSB : Hid (someB ps o d = false) := hsb
   have HR0 : Hid (R = mapR ms cs ps bs o d 3) := by have h := HR0.out; rw [grR, ← hd, if_neg (by rintro (h | h); exact h3 h; rw [hsb] at h; cases h)] at h; exact h
   have HMd : Hid (∀ w', Below X.heap.size X w' → Calls Tryz.prog 32 #[.agg #[.slice am nm pm, .slice ac nc pc, .int .u64 (bs : Int), .slice ap np pp], .int .u32 (o : Int), .int .u32 (d : Int), .int .i64 3] w' (GTold R bs w')) := fun w' hb' => by have h := HM.out w' d hb' (by omega); rw [← HR0.out] at h; exact h
   obtain ⟨rc, rms, rcs, rps⟩ := R
   clear HR0 hsb hd h2 h3 HM HU
   simp only
   by_cases hrc0 : rc = 0
   ·rw [if_pos hrc0]
    subst hrc0
    go_enter Tryz.func18, Tryz.ntmps18
    go_wp2_with fail
    refine (KE.out _).mono ?_
    rintro e w8 ⟨rfl, rfl⟩
    go_wp2_with fail
    refine (KA.out _).mono ?_
    rintro e w9 ⟨rfl, rfl⟩
    obtain ⟨Wa, W1, nL, hWa, hnL, BL0, hW1, BL, SP1, bA, lt1⟩ := SP0.lay (.slice am nm pm) (.slice ac nc pc) (.int .u64 (bs : Int)) (.slice ap np pp)
    unfold S4 at hW1
    obtain ⟨g0, g1, g2, g3⟩ := BL0.cells
    obtain ⟨e0, e1, e2, e3⟩ := BL0.frees
    obtain ⟨d0, d1, d2, d3⟩ := BL.cells
    obtain ⟨c0, c1, c2, c3, c4, c5⟩ := SP0.bG.cells
    clear BL0 c0 c1 c2 c3 c4 c5
    go_wp2_with fail
    refine (HMd.out W1 bA).mono ?_
    rintro e w2 ⟨x1, x2, x3, x4, x5, x6, x7, x8, x9, rfl, hs2, hb2⟩
    obtain ⟨Wb, W4, nX, hWb, hnX, BX0, hW4, BX, SP4, bB, lt4⟩ := (SP1.keep hb2).lay (.slice x1 x2 x3) (.slice x4 x5 x6) (.int .u64 (bs : Int)) (.slice x7 x8 x9)
    have bC : Below w9.heap.size w9 W4 := below_tr bA (below_tr hb2 bB)
    have BL4 := (BL.keep hb2).keep bB
    have KS := rsome30 (.slice am nm pm) (.slice ac nc pc) (.slice ap np pp) bs o d ps W4 ⟨_, _, _, rfl⟩ ⟨_, _, _, rfl⟩ (HSX.out.keep bC).2.2 HPL.out HPN.out
    rw [HSB.out] at KS
    unfold S4 at hW4
    obtain ⟨k0, k1, k2, k3⟩ := BX0.cells
    obtain ⟨l0, l1, l2, l3⟩ := BX0.frees
    obtain ⟨i0, i1, i2, i3⟩ := BL4.cells
    have HBX : Hid _ := BX
    have HBL : Hid _ := BL4
    have HSP : Hid _ := SP4
    have HS2 : Hid _ := hs2.keep bB
    have HBC : Hid (Below w9.heap.size w9 W4) := bC
    have HLT : Hid (nR < nL ∧ nL < nX) := ⟨lt1, by have := BL.lt; have := hb2.size; omega⟩
    clear BX0 BX SP4 SP1 BL BL4 hs2 hb2 bB bA bC HMd hWa hW1 g0 g1 g2 g3 e0 e1 e2 e3 d0 d1 d2 d3 lt1 lt4 hnL SP0
    go_wp2_with fail
    refine KS.mono ?_
    rintro e w5 ⟨rfl, hb5⟩
    clear KS hnX
    have SP : Sp w w5 nG nR (.slice am nm pm) (.slice ac nc pc) (.int .u64 (bs : Int)) (.slice ap np pp) (.int .u32 (st : Int)) (.int .u32 (en : Int)) := HSP.out.keep hb5
    have BX5 := B4.keep HBX.out hb5
    have BL5 := B4.keep HBL.out hb5
    obtain ⟨r0, r1, r2, r3⟩ := BX5.cells
    obtain ⟨s0, s1, s2, s3⟩ := BL5.cells
    obtain ⟨v0, v1, v2, v3⟩ := BL5.frees
    have SP1 := SP.setL HLT.out.1 (.slice x1 x2 x3) (.slice x4 x5 x6) (.int .u64 (bs : Int)) (.slice x7 x8 x9)
    have hs1 := slg_4 (SlG.keep HS2.out hb5) BL5 x1 x4 x7 x2 x3 x5 x6 x8 x9 (bs : Int)
    have BLn := BL5.S4 (.slice x1 x2 x3) (.slice x4 x5 x6) (.int .u64 (bs : Int)) (.slice x7 x8 x9)
    obtain ⟨W1, hW1⟩ : ∃ y, S4 w5 nL (.slice x1 x2 x3) (.slice x4 x5 x6) (.int .u64 (bs : Int)) (.slice x7 x8 x9) = y := ⟨_, rfl⟩
    rw [hW1] at SP1 hs1 BLn
    unfold S4 at hW1
    obtain ⟨z0, z1, z2, z3⟩ := BLn.cells
    clear HBX HBL HSP HS2 HBC HLT HSX SP BX5 BL5 BLn k0 k1 k2 k3 l0 l1 l2 l3 i0 i1 i2 i3
    have SP2 := SP1.setG (.slice x1 x2 x3) (.slice x4 x5 x6) (.int .u64 (bs : Int)) (.slice x7 x8 x9)
    have hs2 := slg_S4 hs1 SP1.bG x1 x4 x7 x2 x3 x5 x6 x8 x9 (bs : Int)
    obtain ⟨c0, c1, c2, c3, c4, c5⟩ := SP1.bG.cells
    obtain ⟨y0, y1, y2, y3, y4, y5⟩ := SP1.bG.frees
    obtain ⟨W2, hW2⟩ : ∃ y, S4 W1 nG (.slice x1 x2 x3) (.slice x4 x5 x6) (.int .u64 (bs : Int)) (.slice x7 x8 x9) = y := ⟨_, rfl⟩
    rw [hW2] at SP2 hs2
    unfold S4 at hW2
    have SP := SP2.setE (.int .u32 (a : Int))
    have hs3 := slg_set6 (i := 5) hs2 SP2.bG (.int .u32 (a : Int))
    obtain ⟨j0, j1, j2, j3, j4, j5⟩ := SP2.bG.cells
    have k5 := SP2.bG.frees.2.2.2.2.2
    obtain ⟨W3, hW3⟩ : ∃ y, W2.setCell ⟨nG, 5, none⟩ (.int .u32 (a : Int)) = y := ⟨_, rfl⟩
    rw [hW3] at SP hs3
    clear SP1 SP2 hs1 hs2
    obtain ⟨t0, t1, t2, t3, t4, t5⟩ := SP.bG.cells
    obtain ⟨m0, m1, m2, m3, m4, m5⟩ := SP.bG.cells
    obtain ⟨q0, q1, q2, q3, q4, q5⟩ := SP.bR.cells
    obtain ⟨f0, f1, f2, f3, f4, f5⟩ := SP.bR.frees
    have HE' : Hid _ := SP.bR.set6 (.slice x1 x2 x3) (.slice x4 x5 x6) (.int .u64 (bs : Int)) (.slice x7 x8 x9) (.int .u32 (st : Int)) (.int .u32 (a : Int))
    have HS' : Hid _ := slg_S6 hs3 SP.bR x1 x4 x7 x2 x3 x5 x6 x8 x9 (bs : Int) (st : Int) (a : Int)
    have HW' : Hid _ := S6.below (B := w.heap.size) (b := nR) SP.bl (by have := SP.ne; omega) (.slice x1 x2 x3) (.slice x4 x5 x6) (.int .u64 (bs : Int)) (.slice x7 x8 x9) (.int .u32 (st : Int)) (.int .u32 (a : Int))
    clear SP hs3
    go_wp2
    obtain ⟨u0, u1, u2, u3, u4, u5⟩ := B6.cells HE'.out
    unfold S6 S4 at u0 u1 u2 u3 u4 u5
    refine bodyPost_ret (v := .tuple #[.agg #[.slice x1 x2 x3, .slice x4 x5 x6, .int .u64 (bs : Int), .slice x7 x8 x9, .int .u32 (st : Int), .int .u32 (a : Int)], .int .u32 (a : Int)]) ?_ rfl ⟨x1, x2, x3, x4, x5, x6, x7, x8, x9, rfl, HS'.out, HW'.out⟩
    rw [results_cell_tmp rfl]; simp [go_sem, u0, u1, u2, u3, u4, u5]
   ·rw [if_neg hrc0]
    have r1 : (rc == 0) = false := by rw [beq_eq_false_iff_ne]; exact hrc0
    have r2 : (rc != 0) = true := by simp [hrc0]
    clear hrc0
    go_enter Tryz.func18, Tryz.ntmps18
    go_wp2_with fail
    refine (KE.out _).mono ?_
    rintro e w8 ⟨rfl, rfl⟩
    go_wp2_with fail
    refine (KA.out _).mono ?_
    rintro e w9 ⟨rfl, rfl⟩
    obtain ⟨Wa, W1, nL, hWa, hnL, BL0, hW1, BL, SP1, bA, lt1⟩ := SP0.lay (.slice am nm pm) (.slice ac nc pc) (.int .u64 (bs : Int)) (.slice ap np pp)
    unfold S4 at hW1
    obtain ⟨g0, g1, g2, g3⟩ := BL0.cells
    obtain ⟨e0, e1, e2, e3⟩ := BL0.frees
    obtain ⟨d0, d1, d2, d3⟩ := BL.cells
    obtain ⟨c0, c1, c2, c3, c4, c5⟩ := SP0.bG.cells
    clear BL0 c0 c1 c2 c3 c4 c5
    go_wp2_with fail
    refine (HMd.out W1 bA).mono ?_
    rintro e w2 ⟨x1, x2, x3, x4, x5, x6, x7, x8, x9, rfl, hs2, hb2⟩
    obtain ⟨Wb, W4, nX, hWb, hnX, BX0, hW4, BX, SP4, bB, lt4⟩ := (SP1.keep hb2).lay (.slice x1 x2 x3) (.slice x4 x5 x6) (.int .u64 (bs : Int)) (.slice x7 x8 x9)
    have bC : Below w9.heap.size w9 W4 := below_tr bA (below_tr hb2 bB)
    have BL4 := (BL.keep hb2).keep bB
    have KS := rsome30 (.slice am nm pm) (.slice ac nc pc) (.slice ap np pp) bs o d ps W4 ⟨_, _, _, rfl⟩ ⟨_, _, _, rfl⟩ (HSX.out.keep bC).2.2 HPL.out HPN.out
    rw [HSB.out] at KS
    unfold S4 at hW4
    obtain ⟨k0, k1, k2, k3⟩ := BX0.cells
    obtain ⟨l0, l1, l2, l3⟩ := BX0.frees
    obtain ⟨i0, i1, i2, i3⟩ := BL4.cells
    have HBX : Hid _ := BX
    have HBL : Hid _ := BL4
    have HSP : Hid _ := SP4
    have HS2 : Hid _ := hs2.keep bB
    have HBC : Hid (Below w9.heap.size w9 W4) := bC
    have HLT : Hid (nR < nL ∧ nL < nX) := ⟨lt1, by have := BL.lt; have := hb2.size; omega⟩
    clear BX0 BX SP4 SP1 BL BL4 hs2 hb2 bB bA bC HMd hWa hW1 g0 g1 g2 g3 e0 e1 e2 e3 d0 d1 d2 d3 lt1 lt4 hnL SP0
    go_wp2_with fail
    refine KS.mono ?_
    rintro e w5 ⟨rfl, hb5⟩
    clear KS hnX
    have SP : Sp w w5 nG nR (.slice am nm pm) (.slice ac nc pc) (.int .u64 (bs : Int)) (.slice ap np pp) (.int .u32 (st : Int)) (.int .u32 (en : Int)) := HSP.out.keep hb5
    have hs3 := HSX.out.keep (below_tr HBC.out hb5)
    clear HBX HBL HSP HS2 HBC HLT HSX k0 k1 k2 k3 l0 l1 l2 l3 i0 i1 i2 i3
    obtain ⟨m0, m1, m2, m3, m4, m5⟩ := SP.bG.cells
    obtain ⟨q0, q1, q2, q3, q4, q5⟩ := SP.bR.cells
    obtain ⟨f0, f1, f2, f3, f4, f5⟩ := SP.bR.frees
    have HE' : Hid _ := SP.bR.set6 (.slice am nm pm) (.slice ac nc pc) (.int .u64 (bs : Int)) (.slice ap np pp) (.int .u32 (st : Int)) (.int .u32 (en : Int))
    have HS' : Hid _ := slg_S6 hs3 SP.bR am ac ap nm pm nc pc np pp (bs : Int) (st : Int) (en : Int)
    have HW' : Hid _ := S6.below (B := w.heap.size) (b := nR) SP.bl (by have := SP.ne; omega) (.slice am nm pm) (.slice ac nc pc) (.int .u64 (bs : Int)) (.slice ap np pp) (.int .u32 (st : Int)) (.int .u32 (en : Int))
    clear SP hs3
    go_wp2
    go_region
    all_goals
     go_wp2
     obtain ⟨u0, u1, u2, u3, u4, u5⟩ := B6.cells HE'.out
     unfold S6 S4 at u0 u1 u2 u3 u4 u5
     refine bodyPost_ret (v := .tuple #[.agg #[.slice am nm pm, .slice ac nc pc, .int .u64 (bs : Int), .slice ap np pp, .int .u32 (st : Int), .int .u32 (en : Int)], .int .u32 (en : Int)]) ?_ rfl ⟨am, nm, pm, ac, nc, pc, ap, np, pp, rfl, SlG.keep HS'.out (Below.refl _ _).drew, HW'.out.drew⟩
     rw [results_cell_tmp rfl]; simp [go_sem, u0, u1, u2, u3, u4, u5]
 ·have b1 : decide ((o : Int) < (q : Int)) = false := decide_eq_false (by omega)
  have b1' : (o < q) = False := eq_false h2
  have HR0 : Hid (R = if q < o then unmapR ms cs ps bs q (o - q) else (0, ms, cs, ps)) := by have h := HR0.out; rw [if_neg h2] at h; exact h
  clear HM HPL HPN h2
  by_cases h3 : q < o
  ·have HR0 : Hid (R = unmapR ms cs ps bs q (o - q)) := by have h := HR0.out; rw [if_pos h3] at h; exact h
   obtain ⟨d, hd⟩ : ∃ z, z = o - q := ⟨_, rfl⟩
   have y1 : IntKind.u32.wrap ((o : Int) - (q : Int)) = (d : Int) := by rw [IntKind.wrap_u32]; omega
   have y2 : ((o : Int) - (q : Int)) % 4294967296 = (d : Int) := by omega
   have y3 : (o : Int) - (q : Int) = (d : Int) := by omega
   have y4 : (q : Int) < (o : Int) := by omega
   have HUd : Hid (∀ w', Below X.heap.size X w' → Calls Tryz.prog 34 #[.agg #[.slice am nm pm, .slice ac nc pc, .int .u64 (bs : Int), .slice ap np pp], .int .u32 (q : Int), .int .u32 (d : Int)] w' (GTold R bs w')) := fun w' hb' => by have h := HU.out w' d hb' (by omega); rw [hd, ← HR0.out, ← hd] at h; exact h
   have hc0 : R.1 = 0 := by rw [HR0.out]; exact un_ok (by omega) (by omega)
   obtain ⟨rc, rms, rcs, rps⟩ := R
   obtain rfl : rc = 0 := hc0
   clear HR0 hd HU h3
   rw [if_pos rfl]
   simp only
   have hq4 : ((458752 : Int) < (q : Int)) ∨ (decide ((458752 : Int) < (q : Int)) = false ∧ (458752 < q) = False) := by
    by_cases g : 458752 < q
    ·exact .inl (by omega)
    ·exact .inr ⟨decide_eq_false (by omega), eq_false g⟩
   rcases hq4 with f1 | ⟨f1, f2⟩
   all_goals
    go_enter Tryz.func18, Tryz.ntmps18
    go_wp2_with fail
    refine (KE.out _).mono ?_
    rintro e w8 ⟨rfl, rfl⟩
    go_wp2_with fail
    refine (KA.out _).mono ?_
    rintro e w9 ⟨rfl, rfl⟩
    obtain ⟨Wa, W1, nL, hWa, hnL, BL0, hW1, BL, SP1, bA, lt1⟩ := SP0.lay (.slice am nm pm) (.slice ac nc pc) (.int .u64 (bs : Int)) (.slice ap np pp)
    unfold S4 at hW1
    obtain ⟨g0, g1, g2, g3⟩ := BL0.cells
    obtain ⟨e0, e1, e2, e3⟩ := BL0.frees
    obtain ⟨d0, d1, d2, d3⟩ := BL.cells
    obtain ⟨c0, c1, c2, c3, c4, c5⟩ := SP0.bG.cells
    clear BL0 c0 c1 c2 c3 c4 c5
    go_wp2_with fail
    refine (HUd.out W1 bA).mono ?_
    rintro e w2 ⟨x1, x2, x3, x4, x5, x6, x7, x8, x9, rfl, hs2, hb2⟩
    have BL5 := BL.keep hb2
    obtain ⟨s0, s1, s2, s3⟩ := BL5.cells
    obtain ⟨v0, v1, v2, v3⟩ := BL5.frees
    have SPb := (SP1.keep hb2).setL lt1 (.slice x1 x2 x3) (.slice x4 x5 x6) (.int .u64 (bs : Int)) (.slice x7 x8 x9)
    have hs1 := slg_4 hs2 BL5 x1 x4 x7 x2 x3 x5 x6 x8 x9 (bs : Int)
    have BLn := BL5.S4 (.slice x1 x2 x3) (.slice x4 x5 x6) (.int .u64 (bs : Int)) (.slice x7 x8 x9)
    clear SP1 HUd hW1 hWa g0 g1 g2 g3 e0 e1 e2 e3 d0 d1 d2 d3 hnL
    obtain ⟨W5, hW5⟩ : ∃ y, S4 w2 nL (.slice x1 x2 x3) (.slice x4 x5 x6) (.int .u64 (bs : Int)) (.slice x7 x8 x9) = y := ⟨_, rfl⟩
    rw [hW5] at SPb hs1 BLn
    unfold S4 at hW5
    obtain ⟨z0, z1, z2, z3⟩ := BLn.cells
    have SP1 := SPb
    clear BL BL5 BLn bA hb2 hs2 lt1 HSX SP0 SPb
    have SP2 := SP1.setG (.slice x1 x2 x3) (.slice x4 x5 x6) (.int .u64 (bs : Int)) (.slice x7 x8 x9)
    have hs2 := slg_S4 hs1 SP1.bG x1 x4 x7 x2 x3 x5 x6 x8 x9 (bs : Int)
    obtain ⟨c0, c1, c2, c3, c4, c5⟩ := SP1.bG.cells
    obtain ⟨y0, y1, y2, y3, y4, y5⟩ := SP1.bG.frees
    obtain ⟨W2, hW2⟩ : ∃ y, S4 W5 nG (.slice x1 x2 x3) (.slice x4 x5 x6) (.int .u64 (bs : Int)) (.slice x7 x8 x9) = y := ⟨_, rfl⟩
    rw [hW2] at SP2 hs2
    unfold S4 at hW2
    have SP := SP2.setE (.int .u32 (a : Int))
    have hs3 := slg_set6 (i := 5) hs2 SP2.bG (.int .u32 (a : Int))
    obtain ⟨j0, j1, j2, j3, j4, j5⟩ := SP2.bG.cells
    have k5 := SP2.bG.frees.2.2.2.2.2
    obtain ⟨W3, hW3⟩ : ∃ y, W2.setCell ⟨nG, 5, none⟩ (.int .u32 (a : Int)) = y := ⟨_, rfl⟩
    rw [hW3] at SP hs3
    clear SP1 SP2 hs1 hs2
    obtain ⟨t0, t1, t2, t3, t4, t5⟩ := SP.bG.cells
    obtain ⟨m0, m1, m2, m3, m4, m5⟩ := SP.bG.cells
    obtain ⟨q0, q1, q2, q3, q4, q5⟩ := SP.bR.cells
    obtain ⟨f0, f1, f2, f3, f4, f5⟩ := SP.bR.frees
    have HE' : Hid _ := SP.bR.set6 (.slice x1 x2 x3) (.slice x4 x5 x6) (.int .u64 (bs : Int)) (.slice x7 x8 x9) (.int .u32 (st : Int)) (.int .u32 (a : Int))
    have HS' : Hid _ := slg_S6 hs3 SP.bR x1 x4 x7 x2 x3 x5 x6 x8 x9 (bs : Int) (st : Int) (a : Int)
    have HW' : Hid _ := S6.below (B := w.heap.size) (b := nR) SP.bl (by have := SP.ne; omega) (.slice x1 x2 x3) (.slice x4 x5 x6) (.int .u64 (bs : Int)) (.slice x7 x8 x9) (.int .u32 (st : Int)) (.int .u32 (a : Int))
    clear SP hs3
    go_wp2
    obtain ⟨u0, u1, u2, u3, u4, u5⟩ := B6.cells HE'.out
    unfold S6 S4 at u0 u1 u2 u3 u4 u5
    refine bodyPost_ret (v := .tuple #[.agg #[.slice x1 x2 x3, .slice x4 x5 x6, .int .u64 (bs : Int), .slice x7 x8 x9, .int .u32 (st : Int), .int .u32 (a : Int)], .int .u32 (a : Int)]) ?_ rfl ⟨x1, x2, x3, x4, x5, x6, x7, x8, x9, rfl, HS'.out, HW'.out⟩
    rw [results_cell_tmp rfl]; simp [go_sem, u0, u1, u2, u3, u4, u5]
  ·have hR1 : R = (0, ms, cs, ps) := by have h := HR0.out; rw [if_neg h3] at h; exact h
   rw [hR1, if_pos rfl]
   simp only
   have y4 : decide ((q : Int) < (o : Int)) = false := decide_eq_false (by omega)
   have y5 : (q < o) = False := eq_false h3
   clear HR0 HU hR1 h3
   have hq4 : ((458752 : Int) < (q : Int)) ∨ (decide ((458752 : Int) < (q : Int)) = false ∧ (458752 < q) = False) := by
    by_cases g : 458752 < q
    ·exact .inl (by omega)
    ·exact .inr ⟨decide_eq_false (by omega), eq_false g⟩
   rcases hq4 with f1 | ⟨f1, f2⟩
   all_goals
    go_enter Tryz.func18, Tryz.ntmps18
    go_wp2_with fail
    refine (KE.out _).mono ?_
    rintro e w8 ⟨rfl, rfl⟩
    go_wp2_with fail
    refine (KA.out _).mono ?_
    rintro e w9 ⟨rfl, rfl⟩
    obtain ⟨Wa, W1, nL, hWa, hnL, BL0, hW1, BL, SP1, bA, lt1⟩ := SP0.lay (.slice am nm pm) (.slice ac nc pc) (.int .u64 (bs : Int)) (.slice ap np pp)
    unfold S4 at hW1
    obtain ⟨g0, g1, g2, g3⟩ := BL0.cells
    obtain ⟨e0, e1, e2, e3⟩ := BL0.frees
    obtain ⟨d0, d1, d2, d3⟩ := BL.cells
    obtain ⟨c0, c1, c2, c3, c4, c5⟩ := SP0.bG.cells
    have hs1 := HSX.out.keep bA
    clear BL0 BL bA lt1 HSX SP0
    have SP2 := SP1.setG (.slice am nm pm) (.slice ac nc pc) (.int .u64 (bs : Int)) (.slice ap np pp)
    have hs2 := slg_S4 hs1 SP1.bG am ac ap nm pm nc pc np pp (bs : Int)
    obtain ⟨c0, c1, c2, c3, c4, c5⟩ := SP1.bG.cells
    obtain ⟨y0, y1, y2, y3, y4, y5⟩ := SP1.bG.frees
    obtain ⟨W2, hW2⟩ : ∃ y, S4 W1 nG (.slice am nm pm) (.slice ac nc pc) (.int .u64 (bs : Int)) (.slice ap np pp) = y := ⟨_, rfl⟩
    rw [hW2] at SP2 hs2
    unfold S4 at hW2
    have SP := SP2.setE (.int .u32 (a : Int))
    have hs3 := slg_set6 (i := 5) hs2 SP2.bG (.int .u32 (a : Int))
    obtain ⟨j0, j1, j2, j3, j4, j5⟩ := SP2.bG.cells
    have k5 := SP2.bG.frees.2.2.2.2.2
    obtain ⟨W3, hW3⟩ : ∃ y, W2.setCell ⟨nG, 5, none⟩ (.int .u32 (a : Int)) = y := ⟨_, rfl⟩
    rw [hW3] at SP hs3
    clear SP1 SP2 hs1 hs2
    obtain ⟨t0, t1, t2, t3, t4, t5⟩ := SP.bG.cells
    obtain ⟨m0, m1, m2, m3, m4, m5⟩ := SP.bG.cells
    obtain ⟨q0, q1, q2, q3, q4, q5⟩ := SP.bR.cells
    obtain ⟨f0, f1, f2, f3, f4, f5⟩ := SP.bR.frees
    have HE' : Hid _ := SP.bR.set6 (.slice am nm pm) (.slice ac nc pc) (.int .u64 (bs : Int)) (.slice ap np pp) (.int .u32 (st : Int)) (.int .u32 (a : Int))
    have HS' : Hid _ := slg_S6 hs3 SP.bR am ac ap nm pm nc pc np pp (bs : Int) (st : Int) (a : Int)
    have HW' : Hid _ := S6.below (B := w.heap.size) (b := nR) SP.bl (by have := SP.ne; omega) (.slice am nm pm) (.slice ac nc pc) (.int .u64 (bs : Int)) (.slice ap np pp) (.int .u32 (st : Int)) (.int .u32 (a : Int))
    clear SP hs3
    go_wp2
    obtain ⟨u0, u1, u2, u3, u4, u5⟩ := B6.cells HE'.out
    unfold S6 S4 at u0 u1 u2 u3 u4 u5
    refine bodyPost_ret (v := .tuple #[.agg #[.slice am nm pm, .slice ac nc pc, .int .u64 (bs : Int), .slice ap np pp, .int .u32 (st : Int), .int .u32 (a : Int)], .int .u32 (a : Int)]) ?_ rfl ⟨am, nm, pm, ac, nc, pc, ap, np, pp, rfl, HS'.out, HW'.out⟩
    rw [results_cell_tmp rfl]; simp [go_sem, u0, u1, u2, u3, u4, u5]
end Go.Proofs.YtkpmkgkfpikpfaaGreat
