/- What is proved here: the law GmapRights, walked. -/
import Derived.Test.YtkpmkgkfpikpfaaGreatStq
import Derived.Test.YtkpmkgkfpikpfaaGreatStk
import Derived.Test.YtkpmkgkfpikpfaaGreatEach
import Derived.LoopTactic
namespace Go.Proofs.YtkpmkgkfpikpfaaGreat
open Go.RowKit
set_option linter.unusedVariables false
set_option linter.unusedSimpArgs false
set_option maxRecDepth 100000
set_option maxHeartbeats 8000000 in
theorem rights_walk (vm vc vp : Value) (ms cs ps : List (Nat × Int)) (bs st en : Nat) (w : World) (hsl : SlG w vm vc vp ms cs ps) (hrc : ∀ y ∈ cs, y.1 < 18446744073709551616) (hw : Words cs) (hbs : bs < 18446744073709551616) (hst : st < 4294967296) (hen : en < 4294967296) (a n : Nat) (prot : Int) (ha : a < 4294967296) (hn : n < 4294967296) (hpw : (Lit.int .i64 prot).wf = true) :
    Calls Tryz.prog 6 #[.agg #[vm, vc, .int .u64 (bs : Int), vp, .int .u32 (st : Int), .int .u32 (en : Int)], .int .u32 (a : Int), .int .u32 (n : Int), .int .i64 prot] w fun e w' => e = .returned (.bool true) ∧ Below w.heap.size w w' := by
  obtain ⟨s1, s3, rfl, l0a, l0b⟩ : ∃ x p, vm = .slice x ms.length p ∧ ms.length ≤ p ∧ p ≤ 9223372036854775807 := by obtain ⟨x, p, h, h1, h2, _⟩ := id hsl.1; exact ⟨_, _, h, h1, h2⟩
  obtain ⟨s4, s6, rfl, l1a, l1b⟩ : ∃ x p, vc = .slice x cs.length p ∧ cs.length ≤ p ∧ p ≤ 9223372036854775807 := by obtain ⟨x, p, h, h1, h2, _⟩ := id hsl.2.1; exact ⟨_, _, h, h1, h2⟩
  obtain ⟨s7, s9, rfl, l2a, l2b⟩ : ∃ x p, vp = .slice x ps.length p ∧ ps.length ≤ p ∧ p ≤ 9223372036854775807 := by obtain ⟨x, p, h, h1, h2, _⟩ := id hsl.2.2; exact ⟨_, _, h, h1, h2⟩
  obtain ⟨s2, hs2⟩ : ∃ z, z = ms.length := ⟨_, rfl⟩
  obtain ⟨s5, hs5⟩ : ∃ z, z = cs.length := ⟨_, rfl⟩
  obtain ⟨s8, hs8⟩ : ∃ z, z = ps.length := ⟨_, rfl⟩
  have l8 : s8 < 9223372036854775808 := by omega
  rw [← hs2, ← hs5, ← hs8] at hsl ⊢
  clear l0a l0b l1a l1b l2a l2b hs2 hs5
  have HS8 : Hid (s8 = ps.length) := hs8
  clear hs8
  obtain ⟨X, hX, BS, hb⟩ := box6S w (.slice s1 s2 s3) (.slice s4 s5 s6) (.int .u64 (bs : Int)) (.slice s7 s8 s9) (.int .u32 (st : Int)) (.int .u32 (en : Int))
  obtain ⟨c0, c1, c2, c3, c4, c5⟩ := BS.cells
  have K7 := few7 (.slice s1 s2 s3) (.slice s4 s5 s6) (.slice s7 s8 s9) bs st en ms cs ps X (hsl.keep hb)
  have K9 : Hid (∀ w', Below X.heap.size X w' → Calls Tryz.prog 9 #[.agg #[.slice s1 s2 s3, .slice s4 s5 s6, .int .u64 (bs : Int), .slice s7 s8 s9, .int .u32 (st : Int), .int .u32 (en : Int)]] w' fun e w'' => e = .returned (.bool (spFit ms cs ps bs st en)) ∧ Below w'.heap.size w' w'') := fun w' hb' =>
    rspFit9 (.slice s1 s2 s3) (.slice s4 s5 s6) (.slice s7 s8 s9) bs st en ms cs ps w' (hsl.keep (below_tr hb hb')) hrc hbs
  have HSL : Hid (SlG X (.slice s1 s2 s3) (.slice s4 s5 s6) (.slice s7 s8 s9) ms cs ps) := hsl.keep hb
  have HRC : Hid (∀ y ∈ cs, y.1 < 18446744073709551616) := hrc
  have HWO : Hid (Words cs) := hw
  have HR : Hid (st < 4294967296 ∧ en < 4294967296 ∧ a < 4294967296 ∧ n < 4294967296 ∧ bs < 18446744073709551616) := ⟨hst, hen, ha, hn, hbs⟩
  have HB : Hid (Below w.heap.size w X) := hb
  have HPW : Hid ((Lit.int .i64 prot).wf = true) := hpw
  clear hsl hrc hw hb hst hen ha hn hbs hpw
  by_cases hfew : ms.length ≤ 70 ∧ cs.length ≤ 100 ∧ ps.length ≤ 80
  case neg =>
    rw [decide_eq_false hfew] at K7
    clear hfew
    go_enter Tryz.func6, Tryz.ntmps6
    go_wp2_with fail
    refine K7.mono ?_
    rintro e w1 ⟨rfl, hb1⟩
    have HB1 : Hid (Below w.heap.size w w1) := below_tr HB.out hb1
    clear hb1
    go_wp2_with fail
    refine (awake10 w1).mono ?_
    rintro e wz ⟨rfl, hbz⟩
    have HBz : Hid (Below w.heap.size w wz) := below_tr HB1.out hbz
    go_wp2
    go_ret
    exact ⟨rfl, HBz.out⟩
  rw [decide_eq_true hfew] at K7
  clear hfew
  cases hfit : spFit ms cs ps bs st en with
  | false =>
    rw [hfit] at K9
    clear hfit
    go_enter Tryz.func6, Tryz.ntmps6
    go_wp2_with fail
    refine K7.mono ?_
    rintro e w1 ⟨rfl, hb1⟩
    have K9 := K9.out w1 hb1
    obtain ⟨c0, c1, c2, c3, c4, c5⟩ := (BS.keep hb1).cells
    have HB1 : Hid (Below w.heap.size w w1) := below_tr HB.out hb1
    clear hb1 BS
    go_wp2_with fail
    refine K9.mono ?_
    rintro e w2 ⟨rfl, hb2⟩
    have HB2 : Hid (Below w.heap.size w w2) := below_tr HB1.out hb2
    clear hb2 K9
    go_wp2_with fail
    refine (awake10 w2).mono ?_
    rintro e wz ⟨rfl, hbz⟩
    have HBz : Hid (Below w.heap.size w wz) := below_tr HB2.out hbz
    go_wp2
    go_ret
    exact ⟨rfl, HBz.out⟩
  | true =>
  rw [hfit] at K9
  have HQ : Hid (FitG ms cs ps bs ∧ st % 4096 = 0 ∧ st ≤ en) := of_spFit hfit
  clear hfit
  go_enter Tryz.func6, Tryz.ntmps6
  go_wp2_with fail
  refine K7.mono ?_
  rintro e w1 ⟨rfl, hb1⟩
  have K9 := K9.out w1 hb1
  have BS := BS.keep hb1
  obtain ⟨c0, c1, c2, c3, c4, c5⟩ := BS.cells
  have HB : Hid (Below w.heap.size w w1) := below_tr HB.out hb1
  have HSL : Hid (SlG w1 (.slice s1 s2 s3) (.slice s4 s5 s6) (.slice s7 s8 s9) ms cs ps) := HSL.out.keep hb1
  clear hb1 K7 hX
  go_wp2_with fail
  refine K9.mono ?_
  rintro e w2 ⟨rfl, hb2⟩
  have BS := BS.keep hb2
  obtain ⟨c0, c1, c2, c3, c4, c5⟩ := BS.cells
  have HB : Hid (Below w.heap.size w w2) := below_tr HB.out hb2
  have HSL : Hid (SlG w2 (.slice s1 s2 s3) (.slice s4 s5 s6) (.slice s7 s8 s9) ms cs ps) := HSL.out.keep hb2
  clear hb2 K9
  obtain ⟨fp, hfp⟩ : ∃ z, z = a / 4096 := ⟨_, rfl⟩
  obtain ⟨kk, hkk⟩ : ∃ z, z = pgN n := ⟨_, rfl⟩
  have HFP : Hid (fp = a / 4096) := hfp
  have HKK : Hid (kk = pgN n) := hkk
  have hab := HR.out.2.2.1
  have z1 : IntKind.u32.wrap ((a : Int) / 4096) = (fp : Int) := by rw [IntKind.wrap_u32]; omega
  have z2 : (a : Int) / 4096 = (fp : Int) := by omega
  have z2' : (a : Int).tdiv 4096 = (fp : Int) := by rw [Int.tdiv_eq_ediv_of_nonneg (by omega)]; omega
  have z3 : IntKind.u32.wrap (fp : Int) = (fp : Int) := by rw [IntKind.wrap_u32]; omega
  have K20 : Hid (∀ w', Calls Tryz.prog 20 #[.int .u32 (n : Int)] w' fun e w'' => e = .returned (.int .u32 (kk : Int)) ∧ w'' = w') := fun w' => by rw [hkk]; exact count20 n w' HR.out.2.2.2.1
  clear hfp hkk hab
  have K15 := mprotect15 (.slice s1 s2 s3) (.slice s4 s5 s6) (.slice s7 s8 s9) bs st en a n prot ms cs ps w2 HSL.out HRC.out HWO.out HQ.out.1 HR.out.2.2.1 HR.out.2.2.2.1
  go_wp2_with fail
  refine K15.mono ?_
  rintro e w3 ⟨x1, x2, x3, x4, x5, x6, x7, x8, x9, rfl, hs3, hb3⟩
  clear K15
  obtain rfl : s8 = x8 := by
    obtain ⟨_, _, e8, _⟩ := id hs3.2.2
    have h8 := HS8.out
    have h9 := mpr_len ms cs ps a n prot
    cases e8
    omega
  obtain ⟨R1, hR1⟩ : ∃ z, z = mprR ms cs ps a n prot := ⟨_, rfl⟩
  rw [← hR1] at hs3 ⊢
  have HM1 : Hid (R1 = mprR ms cs ps a n prot) := hR1
  obtain ⟨err1, herr1⟩ : ∃ z, R1.1 = z := ⟨_, rfl⟩
  rw [herr1]
  have HE1 : Hid (R1.1 = err1) := herr1
  clear hR1 herr1
  obtain ⟨Xa, X3, hXa, hX3, ⟨i0, i1, i2, i3, i4, i5⟩, ⟨j0, j1, j2, j3, j4, j5⟩, BX, bb3⟩ := new6 w3 (.slice x1 x2 x3) (.slice x4 x5 x6) (.int .u64 (bs : Int)) (.slice x7 s8 x9) (.int .u32 (st : Int)) (.int .u32 (en : Int))
  have BS := (BS.keep hb3).keep bb3
  have HB : Hid (Below w.heap.size w X3) := below_tr HB.out (below_tr hb3 bb3)
  have HSL : Hid (SlG X3 (.slice s1 s2 s3) (.slice s4 s5 s6) (.slice s7 s8 s9) ms cs ps) := (HSL.out.keep hb3).keep bb3
  have HSX : Hid (SlG X3 (.slice x1 x2 x3) (.slice x4 x5 x6) (.slice x7 s8 x9) R1.2.1 R1.2.2.1 R1.2.2.2) := hs3.keep bb3
  obtain ⟨c0, c1, c2, c3, c4, c5⟩ := BS.cells
  clear hs3 hb3 bb3
  have K13 := munmap13 (.slice s1 s2 s3) (.slice s4 s5 s6) (.slice s7 s8 s9) bs st en a n ms cs ps X3 HSL.out HRC.out HWO.out HQ.out.1 HR.out.2.2.1 HR.out.2.2.2.1
  go_wp2_with fail
  refine K13.mono ?_
  rintro e w4 ⟨y1, y2, y3, y4, y5, y6, y7, y8, y9, rfl, hs4, hb4⟩
  clear K13 hXa hX3 i0 i1 i2 i3 i4 i5 j0 j1 j2 j3 j4 j5
  obtain ⟨R2, hR2⟩ : ∃ z, z = munR ms cs ps bs a n := ⟨_, rfl⟩
  rw [← hR2] at hs4 ⊢
  have HM2 : Hid (R2 = munR ms cs ps bs a n) := hR2
  obtain ⟨err2, herr2⟩ : ∃ z, R2.1 = z := ⟨_, rfl⟩
  rw [herr2]
  have HE2 : Hid (R2.1 = err2) := herr2
  clear hR2 herr2
  obtain ⟨Xb, X4, hXb, hX4, ⟨i0, i1, i2, i3, i4, i5⟩, ⟨j0, j1, j2, j3, j4, j5⟩, BY, bb4⟩ := new6 w4 (.slice y1 y2 y3) (.slice y4 y5 y6) (.int .u64 (bs : Int)) (.slice y7 y8 y9) (.int .u32 (st : Int)) (.int .u32 (en : Int))
  have BS := (BS.keep hb4).keep bb4
  have BX := (BX.keep hb4).keep bb4
  have HB : Hid (Below w.heap.size w X4) := below_tr HB.out (below_tr hb4 bb4)
  have HSL : Hid (SlG X4 (.slice s1 s2 s3) (.slice s4 s5 s6) (.slice s7 s8 s9) ms cs ps) := (HSL.out.keep hb4).keep bb4
  have HSX : Hid (SlG X4 (.slice x1 x2 x3) (.slice x4 x5 x6) (.slice x7 s8 x9) R1.2.1 R1.2.2.1 R1.2.2.2) := (HSX.out.keep hb4).keep bb4
  have HSY : Hid (SlG X4 (.slice y1 y2 y3) (.slice y4 y5 y6) (.slice y7 y8 y9) R2.2.1 R2.2.2.1 R2.2.2.2) := hs4.keep bb4
  obtain ⟨c0, c1, c2, c3, c4, c5⟩ := BS.cells
  obtain ⟨d0, d1, d2, d3, d4, d5⟩ := BX.cells
  obtain ⟨g0, g1, g2, g3, g4, g5⟩ := BY.cells
  clear hs4 hb4 bb4
  obtain ⟨ps1, hps1⟩ : ∃ z, z = R1.2.2.2 := ⟨_, rfl⟩
  obtain ⟨ps2, hps2⟩ : ∃ z, z = R2.2.2.2 := ⟨_, rfl⟩
  have KPx : Hid (∀ g w', Below X4.heap.size X4 w' → Calls Tryz.prog 21 #[.agg #[.slice x1 x2 x3, .slice x4 x5 x6, .int .u64 (bs : Int), .slice x7 s8 x9], .int .u32 ((g : Nat) : Int)] w' fun e w'' => e = .returned (.int .i64 (protN ps1 g)) ∧ Below w'.heap.size w' w'') := fun g w' hb' => by rw [hps1]; exact rprot15 (.slice x1 x2 x3) (.slice x4 x5 x6) (.slice x7 s8 x9) bs g R1.2.2.2 w' ⟨_, _, _, rfl⟩ ⟨_, _, _, rfl⟩ (HSX.out.keep hb').2.2
  have KPy : Hid (∀ g w', Below X4.heap.size X4 w' → Calls Tryz.prog 21 #[.agg #[.slice y1 y2 y3, .slice y4 y5 y6, .int .u64 (bs : Int), .slice y7 y8 y9], .int .u32 ((g : Nat) : Int)] w' fun e w'' => e = .returned (.int .i64 (protN ps2 g)) ∧ Below w'.heap.size w' w'') := fun g w' hb' => by rw [hps2]; exact rprot15 (.slice y1 y2 y3) (.slice y4 y5 y6) (.slice y7 y8 y9) bs g R2.2.2.2 w' ⟨_, _, _, rfl⟩ ⟨_, _, _, rfl⟩ (HSY.out.keep hb').2.2
  have HPX : Hid (err1 = 0 → ∀ x ∈ ps, protN ps1 x.1 = if inR a n x.1 = true then prot else x.2) := fun h0 x hx => by
    have h1 := HE1.out.trans h0
    rw [HM1.out] at h1
    rw [hps1, HM1.out]
    exact mpr_yes HQ.out.1.sp h1 hx
  have HPY : Hid (err2 = 0 → ∀ x ∈ ps, protN ps2 x.1 = if inR a n x.1 = true then -1 else x.2) := fun h0 x hx => by
    have h1 := HE2.out.trans h0
    rw [HM2.out] at h1
    rw [hps2, HM2.out]
    exact mun_yes HQ.out.1.sp h1 hx
  have K19x : Hid (err1 ≠ 0 → ∀ w', Below X4.heap.size X4 w' → Calls Tryz.prog 19 #[.agg #[.slice x1 x2 x3, .slice x4 x5 x6, .int .u64 (bs : Int), .slice x7 s8 x9, .int .u32 (st : Int), .int .u32 (en : Int)], .agg #[.slice s1 s2 s3, .slice s4 s5 s6, .int .u64 (bs : Int), .slice s7 s8 s9, .int .u32 (st : Int), .int .u32 (en : Int)]] w' fun e w'' => e = .returned (.bool true) ∧ Below w'.heap.size w' w'') := fun h0 w' hb' => by
    have k := rspSame19 (.slice x1 x2 x3) (.slice x4 x5 x6) (.slice x7 s8 x9) (.slice s1 s2 s3) (.slice s4 s5 s6) (.slice s7 s8 s9) bs st en bs st en R1.2.1 R1.2.2.1 R1.2.2.2 ms cs ps w' (HSX.out.keep hb') (HSL.out.keep hb')
    have e1 : R1 = (R1.1, ms, cs, ps) := by
      have h1 : R1.1 ≠ 0 := by rw [HE1.out]; exact h0
      rw [HM1.out] at h1 ⊢
      exact mpr_no h1
    have es : (sameG R1.2.1 R1.2.2.1 R1.2.2.2 bs ms cs ps bs && decide (st = st) && decide (en = en)) = true := by rw [e1]; unfold sameG; simp
    rw [es] at k
    exact k
  have K19y : Hid (err2 ≠ 0 → ∀ w', Below X4.heap.size X4 w' → Calls Tryz.prog 19 #[.agg #[.slice y1 y2 y3, .slice y4 y5 y6, .int .u64 (bs : Int), .slice y7 y8 y9, .int .u32 (st : Int), .int .u32 (en : Int)], .agg #[.slice s1 s2 s3, .slice s4 s5 s6, .int .u64 (bs : Int), .slice s7 s8 s9, .int .u32 (st : Int), .int .u32 (en : Int)]] w' fun e w'' => e = .returned (.bool true) ∧ Below w'.heap.size w' w'') := fun h0 w' hb' => by
    have k := rspSame19 (.slice y1 y2 y3) (.slice y4 y5 y6) (.slice y7 y8 y9) (.slice s1 s2 s3) (.slice s4 s5 s6) (.slice s7 s8 s9) bs st en bs st en R2.2.1 R2.2.2.1 R2.2.2.2 ms cs ps w' (HSY.out.keep hb') (HSL.out.keep hb')
    have e1 : R2 = (R2.1, ms, cs, ps) := by
      have h1 : R2.1 ≠ 0 := by rw [HE2.out]; exact h0
      rw [HM2.out] at h1 ⊢
      exact mun_no h1
    have es : (sameG R2.2.1 R2.2.2.1 R2.2.2.2 bs ms cs ps bs && decide (st = st) && decide (en = en)) = true := by rw [e1]; unfold sameG; simp
    rw [es] at k
    exact k
  clear hps1 hps2 HSX HSY HM1 HM2 HE1 HE2
  have hb9 : Below X4.heap.size X4 X4 := Below.refl _ _
  by_cases h1 : err1 = 0
  · by_cases h2 : err2 = 0
    · skip
      have hq1 : True := trivial
      have hq1' : True := trivial
      subst h1
      have HPX0 : Hid (∀ x ∈ ps, protN ps1 x.1 = if inR a n x.1 = true then prot else x.2) := HPX.out rfl
      have hq2 : True := trivial
      have hq2' : True := trivial
      subst h2
      have HPY0 : Hid (∀ x ∈ ps, protN ps2 x.1 = if inR a n x.1 = true then -1 else x.2) := HPY.out rfl
      obtain ⟨W5, rfl⟩ : ∃ z, z = X4 := ⟨_, rfl⟩
      have HX : Hid (∀ i (h : i < ps.length), ∃ b o, s7 = some ⟨b, o, none⟩ ∧ W5.cell? ⟨b, o + i * 2, none⟩ = some (.int .u32 (ps[i].1 : Int)) ∧ W5.cell? ⟨b, o + i * 2 + 1, none⟩ = some (.int .i64 ps[i].2)) := by
        obtain ⟨ao, cap, e, _, _, _, g⟩ := HSL.out.2.2
        cases e
        exact g
      go_wp2
      go_loopw [73] (fun i wr => ∃ k : Nat, k ≤ s8 ∧ i = .int .i64 (k : Int) ∧ Below W5.heap.size W5 wr) (fun i _ => s8 - (intOf i).toNat)
      case atStart => exact ⟨0, Nat.zero_le _, rfl, Below.refl _ _⟩
      case round =>
        obtain ⟨k, hk, rfl, hbr⟩ := hrel
        have BSr := BS.keep hbr
        have BXr := BX.keep hbr
        have BYr := BY.keep hbr
        obtain ⟨c0, c1, c2, c3, c4, c5⟩ := BSr.cells
        obtain ⟨d0, d1, d2, d3, d4, d5⟩ := BXr.cells
        obtain ⟨g0, g1, g2, g3, g4, g5⟩ := BYr.cells
        by_cases hkl : k < s8
        · obtain ⟨b, o, rfl, q0, q1⟩ := HX.out k (by rw [← HS8.out]; exact hkl)
          have e0' := keep_cell hbr q0
          have e1' := keep_cell hbr q1
          have hmem := List.getElem_mem (by rw [← HS8.out]; exact hkl : k < ps.length)
          have hr0 := (HQ.out.1.pg _ hmem).2.1
          have hp0 := (HQ.out.1.pg _ hmem).1
          have hr7 := (HQ.out.1.pg _ hmem).2.2.1
          have hpx := HPX0.out _ hmem
          have hpy := HPY0.out _ hmem
          generalize ps[k].1 = p at e0' hp0 hpx hpy 
          generalize ps[k].2 = r at e1' hr0 hr7 hpx hpy 
          have hwr : (Lit.int .i64 r).wf = true := by simp [Lit.wf, IntKind.min, IntKind.max, IntKind.signed, IntKind.bits]; omega
          clear q0 q1 hmem
          obtain ⟨W5', hW5', hb5, hsz5, l0, l1, _, _⟩ := box2 wr (.int .u32 (p : Int)) (.int .i64 r) 53
          have d0 := keep_cell hb5 d0
          have d1 := keep_cell hb5 d1
          have d2 := keep_cell hb5 d2
          have d3 := keep_cell hb5 d3
          have g0 := keep_cell hb5 g0
          have g1 := keep_cell hb5 g1
          have g2 := keep_cell hb5 g2
          have g3 := keep_cell hb5 g3
          clear BSr BXr BYr c0 c1 c2 c3 c4 c5 d4 d5 g4 g5
          by_cases hpf : p < fp
          · have hd1 : decide ((fp : Int) ≤ (p : Int)) = false := by simp; omega
            have hd2 : (fp ≤ p) = False := by simp; omega
            have t1 : True := trivial
            have t2 : True := trivial
            have hi : inR a n p = false := by unfold inR; rw [← HFP.out]; simp; omega
            rw [hi, if_neg (by decide)] at hpx
            rw [hi] at hpy
            obtain ⟨vy, hvy⟩ : ∃ z, z = r := ⟨_, rfl⟩
            rw [if_neg (by decide), ← hvy] at hpy
            have hv : ((0 : Int) ≤ vy) = True := by simp; omega
            clear hvy
            clear hi
            clear hpf
            go_wp2
            refine wp_region_slots (R := Ext) [⟨77, fun v _ => v = .pointer (some ⟨wr.heap.size, 0, none⟩), fun _ _ _ _ h => h⟩, ⟨78, fun v _ => v = .int .u32 (p : Int), fun _ _ _ _ h => h⟩, ⟨79, fun v _ => v = .int .u32 (a : Int), fun _ _ _ _ h => h⟩, ⟨80, fun v _ => v = .int .u32 (fp : Int), fun _ _ _ _ h => h⟩, ⟨81, fun v _ => v = .bool false, fun _ _ _ _ h => h⟩, ⟨82, fun v _ => v = .bool false, fun _ _ _ _ h => h⟩, ⟨91, fun v _ => v = .bool false, fun _ _ _ _ h => h⟩, ⟨15, fun v _ => v = .bool false, fun _ _ _ _ h => h⟩] _ (by kernel_rfl) rfl (by kernel_rfl) (Below.drew (Below.refl _ _)) (fun _ _ _ h1 h2 => below_tr h1 h2) (fun QQ => ⟨?_, ?_, ?_, ?_, ?_, ?_, ?_, ?_, ?_, ?_, ?_, ?_, ?_, ?_, ?_, ?_, trivial⟩) (fun f wy hR hf => ?_)
            · intro A wx hR hout hdep K hK
              have h14 : A.tmps[14]?.getD undef = .pointer (some ⟨wr.heap.size, 0, none⟩) := hout 14 (by kernel_rfl)
              refine if_yes (by kernel_rfl) ?_
              simp [go_sem, h14, hd1, hd2, t1, t2, z1, z2, z2', z3]
              exact hK.out _ _ (Below.refl _ _) rfl
            · intro A wx hR hout hdep K hK
              have h77 : A.tmps[77]?.getD undef = .pointer (some ⟨wr.heap.size, 0, none⟩) := hdep 77 (by kernel_rfl)
              refine if_yes (by kernel_rfl) ?_
              have l0 := keep_cell hR l0
              have l1 := keep_cell hR l1
              simp [go_sem, h77, l0, l1, hd1, hd2, t1, t2, z1, z2, z2', z3]
              exact hK.out _ _ (Below.refl _ _) rfl
            · intro A wx hR hout hdep K hK
              have h1 : A.tmps[1]?.getD undef = .int .u32 (a : Int) := hout 1 (by kernel_rfl)
              refine if_yes (by kernel_rfl) ?_
              simp [go_sem, h1, hd1, hd2, t1, t2, z1, z2, z2', z3]
              exact hK.out _ _ (Below.refl _ _) rfl
            · intro A wx hR hout hdep K hK
              have h79 : A.tmps[79]?.getD undef = .int .u32 (a : Int) := hdep 79 (by kernel_rfl)
              refine if_yes (by kernel_rfl) ?_
              simp [go_sem, h79, hd1, hd2, t1, t2, z1, z2, z2', z3]
              exact hK.out _ _ (Below.refl _ _) rfl
            · intro A wx hR hout hdep K hK
              have h78 : A.tmps[78]?.getD undef = .int .u32 (p : Int) := hdep 78 (by kernel_rfl)
              have h80 : A.tmps[80]?.getD undef = .int .u32 (fp : Int) := hdep 80 (by kernel_rfl)
              refine if_yes (by kernel_rfl) ?_
              simp [go_sem, h78, h80, hd1, hd2, t1, t2, z1, z2, z2', z3]
              exact hK.out _ _ (Below.refl _ _) rfl
            · intro A wx hR hout hdep K hK
              have h81 : A.tmps[81]?.getD undef = .bool false := hdep 81 (by kernel_rfl)
              refine if_yes (by kernel_rfl) ?_
              simp [go_sem, h81, hd1, hd2, t1, t2, z1, z2, z2', z3]
              exact hK.out _ _ (Below.refl _ _) rfl
            · intro A wx hR hout hdep K hK
              have h14 : A.tmps[14]?.getD undef = .pointer (some ⟨wr.heap.size, 0, none⟩) := hout 14 (by kernel_rfl)
              have h82 : A.tmps[82]?.getD undef = .bool false := hdep 82 (by kernel_rfl)
              refine if_not (by rw [wanted_is (j := 5) (b := true) (by kernel_rfl) (by kernel_rfl) h82]; decide) ?_
              exact hK.out _ _ (Below.refl _ _) trivial
            · intro A wx hR hout hdep K hK
              have h82 : A.tmps[82]?.getD undef = .bool false := hdep 82 (by kernel_rfl)
              refine if_not (by rw [wanted_is (j := 5) (b := true) (by kernel_rfl) (by kernel_rfl) h82]; decide) ?_
              exact hK.out _ _ (Below.refl _ _) trivial
            · intro A wx hR hout hdep K hK
              have h1 : A.tmps[1]?.getD undef = .int .u32 (a : Int) := hout 1 (by kernel_rfl)
              have h82 : A.tmps[82]?.getD undef = .bool false := hdep 82 (by kernel_rfl)
              refine if_not (by rw [wanted_is (j := 5) (b := true) (by kernel_rfl) (by kernel_rfl) h82]; decide) ?_
              exact hK.out _ _ (Below.refl _ _) trivial
            · intro A wx hR hout hdep K hK
              have h82 : A.tmps[82]?.getD undef = .bool false := hdep 82 (by kernel_rfl)
              refine if_not (by rw [wanted_is (j := 5) (b := true) (by kernel_rfl) (by kernel_rfl) h82]; decide) ?_
              exact hK.out _ _ (Below.refl _ _) trivial
            · intro A wx hR hout hdep K hK
              have h82 : A.tmps[82]?.getD undef = .bool false := hdep 82 (by kernel_rfl)
              refine if_not (by rw [wanted_is (j := 5) (b := true) (by kernel_rfl) (by kernel_rfl) h82]; decide) ?_
              exact hK.out _ _ (Below.refl _ _) trivial
            · intro A wx hR hout hdep K hK
              have h2 : A.tmps[2]?.getD undef = .int .u32 (n : Int) := hout 2 (by kernel_rfl)
              have h82 : A.tmps[82]?.getD undef = .bool false := hdep 82 (by kernel_rfl)
              refine if_not (by rw [wanted_is (j := 5) (b := true) (by kernel_rfl) (by kernel_rfl) h82]; decide) ?_
              exact hK.out _ _ (Below.refl _ _) trivial
            · intro A wx hR hout hdep K hK
              have h82 : A.tmps[82]?.getD undef = .bool false := hdep 82 (by kernel_rfl)
              refine if_not (by rw [wanted_is (j := 5) (b := true) (by kernel_rfl) (by kernel_rfl) h82]; decide) ?_
              exact hK.out _ _ (Below.refl _ _) trivial
            · intro A wx hR hout hdep K hK
              have h82 : A.tmps[82]?.getD undef = .bool false := hdep 82 (by kernel_rfl)
              refine if_not (by rw [wanted_is (j := 5) (b := true) (by kernel_rfl) (by kernel_rfl) h82]; decide) ?_
              exact hK.out _ _ (Below.refl _ _) trivial
            · intro A wx hR hout hdep K hK
              have h82 : A.tmps[82]?.getD undef = .bool false := hdep 82 (by kernel_rfl)
              refine if_yes (by kernel_rfl) ?_
              simp [go_sem, h82, hd1, hd2, t1, t2, z1, z2, z2', z3]
              exact hK.out _ _ (Below.refl _ _) rfl
            · intro A wx hR hout hdep K hK
              have h91 : A.tmps[91]?.getD undef = .bool false := hdep 91 (by kernel_rfl)
              refine if_yes (by kernel_rfl) ?_
              simp [go_sem, h91, hd1, hd2, t1, t2, z1, z2, z2', z3]
              exact hK.out _ _ (Below.refl _ _) rfl
            simp only [putSl, Act.put, List.setIfInBounds_toArray, List.set_cons_zero, List.set_cons_succ]
            have hz : f 15 = .bool false := hf 15 (by kernel_rfl)
            rw [hz]
            have hbz := below_tr (below_tr hbr hb5) hR
            have l0 := keep_cell hR l0
            have l1 := keep_cell hR l1
            have d0 := keep_cell hR d0
            have d1 := keep_cell hR d1
            have d2 := keep_cell hR d2
            have d3 := keep_cell hR d3
            have g0 := keep_cell hR g0
            have g1 := keep_cell hR g1
            have g2 := keep_cell hR g2
            have g3 := keep_cell hR g3
            clear hf hz hR
            obtain ⟨W6, rfl⟩ : ∃ z, z = wy := ⟨_, rfl⟩
            go_wp2
            refine wp_region_marks (R := RM prot r W6.heap.size) [⟨92, fun v _ => v = .int .i64 0, fun _ _ _ _ h => h⟩, ⟨93, fun v _ => v = .bool true, fun _ _ _ _ h => h⟩, ⟨94, fun v _ => v = .bool true, fun _ _ _ _ h => h⟩, ⟨95, fun v _ => v = .pointer (some ⟨w3.heap.size, 0, none⟩), fun _ _ _ _ h => h⟩, ⟨96, fun v _ => v = .agg #[.slice x1 x2 x3, .slice x4 x5 x6, .int .u64 (bs : Int), .slice x7 s8 x9], fun _ _ _ _ h => h⟩, ⟨97, fun v _ => v = .pointer (some ⟨wr.heap.size, 0, none⟩), fun _ _ _ _ h => h⟩, ⟨98, fun v _ => v = .int .u32 (p : Int), fun _ _ _ _ h => h⟩, ⟨99, fun v _ => v = .int .i64 r, fun _ _ _ _ h => h⟩, ⟨100, fun v w => ∃ b L, v = .map (some b) ∧ W6.heap.size ≤ b ∧ MapAt w b L ∧ GoodL prot r L, fun v w w' hR ⟨b, L, e, hB, m, g⟩ => (hR.2 b L m g).elim fun L' h => ⟨b, L', e, hB, h.1, h.2.1⟩⟩, ⟨101, fun v _ => v = .int .i64 prot, fun _ _ _ _ h => h⟩, ⟨102, fun v _ => v = .pointer (some ⟨wr.heap.size, 1, none⟩), fun _ _ _ _ h => h⟩, ⟨103, fun v _ => v = .int .i64 r, fun _ _ _ _ h => h⟩, ⟨104, fun v w => ∃ b L, v = .map (some b) ∧ MapAt w b L ∧ GoodL prot r L ∧ HasT prot r L ∧ HasF prot r L, fun v w w' hR ⟨b, L, e, m, g, t, f⟩ => (hR.2 b L m g).elim fun L' h => ⟨b, L', e, h.1, h.2.1, h.2.2.1 t, h.2.2.2 f⟩⟩, ⟨105, fun v _ => v = .bool false, fun _ _ _ _ h => h⟩, ⟨106, fun v _ => v = .int .i64 r, fun _ _ _ _ h => h⟩, ⟨107, fun v _ => v = .bool false, fun _ _ _ _ h => h⟩, ⟨108, fun v _ => v = .bool false, fun _ _ _ _ h => h⟩, ⟨109, fun v _ => v = .bool false, fun _ _ _ _ h => h⟩, ⟨110, fun v _ => v = .int .i64 0, fun _ _ _ _ h => h⟩, ⟨111, fun v _ => v = .bool true, fun _ _ _ _ h => h⟩, ⟨112, fun v _ => v = .bool true, fun _ _ _ _ h => h⟩, ⟨113, fun v _ => v = .pointer (some ⟨w4.heap.size, 0, none⟩), fun _ _ _ _ h => h⟩, ⟨114, fun v _ => v = .agg #[.slice y1 y2 y3, .slice y4 y5 y6, .int .u64 (bs : Int), .slice y7 y8 y9], fun _ _ _ _ h => h⟩, ⟨115, fun v _ => v = .pointer (some ⟨wr.heap.size, 0, none⟩), fun _ _ _ _ h => h⟩, ⟨116, fun v _ => v = .int .u32 (p : Int), fun _ _ _ _ h => h⟩, ⟨117, fun v _ => v = .int .i64 vy, fun _ _ _ _ h => h⟩, ⟨118, fun v _ => v = .bool true, fun _ _ _ _ h => h⟩, ⟨119, fun v _ => v = .bool false, fun _ _ _ _ h => h⟩, ⟨120, fun v _ => v = .bool false, fun _ _ _ _ h => h⟩, ⟨121, fun v _ => v = .bool false, fun _ _ _ _ h => h⟩, ⟨122, fun v _ => v = .bool false, fun _ _ _ _ h => h⟩] (MarkM prot r) depM _ (by kernel_rfl) rfl (by kernel_rfl) (by kernel_rfl) (RM.drew _ _ _ _) (fun _ _ _ h1 h2 => h1.trans h2) (fun i f f' w w' => MarkM.keep i f f' w w') (fun QQ => ⟨?_, ?_, ?_, ?_, ?_, ?_, ?_, ?_, ?_, ?_, ?_, ?_, ?_, ?_, ?_, ?_, ?_, ?_, ?_, ?_, ?_, ?_, ?_, ?_, ?_, ?_, ?_, ?_, ?_, ?_, ?_, ?_, ?_, trivial⟩) (fun f wy hR hf => ?_)
            · intro A wx hR hout hdep hmark K hK
              have h10 : A.tmps[10]?.getD undef = .int .i64 0 := hout 10 (by kernel_rfl)
              refine if_yes (by kernel_rfl) ?_
              simp [go_sem, h10, hq1, hq2, hq1', hq2', hv]
              exact hK.out _ _ (RM.refl _ _ _ _) rfl
            · intro A wx hR hout hdep hmark K hK
              have h92 : A.tmps[92]?.getD undef = .int .i64 0 := hdep 92 (by kernel_rfl)
              refine if_yes (by kernel_rfl) ?_
              simp [go_sem, h92, hq1, hq2, hq1', hq2', hv]
              exact hK.out _ _ (RM.refl _ _ _ _) rfl
            · intro A wx hR hout hdep hmark K hK
              have h93 : A.tmps[93]?.getD undef = .bool true := hdep 93 (by kernel_rfl)
              refine if_yes (by kernel_rfl) ?_
              simp [go_sem, h93, hq1, hq2, hq1', hq2', hv]
              exact hK.out _ _ (RM.refl _ _ _ _) rfl
            · intro A wx hR hout hdep hmark K hK
              have h9 : A.tmps[9]?.getD undef = .pointer (some ⟨w3.heap.size, 0, none⟩) := hout 9 (by kernel_rfl)
              have h94 : A.tmps[94]?.getD undef = .bool true := hdep 94 (by kernel_rfl)
              refine if_yes ((wanted_is (j := 2) (b := true) (by kernel_rfl) (by kernel_rfl) h94).trans rfl) ?_
              simp [go_sem, h9, hq1, hq2, hq1', hq2', hv]
              exact hK.out _ _ (RM.refl _ _ _ _) rfl
            · intro A wx hR hout hdep hmark K hK
              have h95 : A.tmps[95]?.getD undef = .pointer (some ⟨w3.heap.size, 0, none⟩) := hdep 95 (by kernel_rfl)
              have h94 : A.tmps[94]?.getD undef = .bool true := hdep 94 (by kernel_rfl)
              refine if_yes ((wanted_is (j := 2) (b := true) (by kernel_rfl) (by kernel_rfl) h94).trans rfl) ?_
              have l0 := keep_cell hR.1 l0
              have l1 := keep_cell hR.1 l1
              have d0 := keep_cell hR.1 d0
              have d1 := keep_cell hR.1 d1
              have d2 := keep_cell hR.1 d2
              have d3 := keep_cell hR.1 d3
              have g0 := keep_cell hR.1 g0
              have g1 := keep_cell hR.1 g1
              have g2 := keep_cell hR.1 g2
              have g3 := keep_cell hR.1 g3
              simp [go_sem, h95, l0, l1, d0, d1, d2, d3, g0, g1, g2, g3, hq1, hq2, hq1', hq2', hv]
              exact hK.out _ _ (RM.refl _ _ _ _) rfl
            · intro A wx hR hout hdep hmark K hK
              have h14 : A.tmps[14]?.getD undef = .pointer (some ⟨wr.heap.size, 0, none⟩) := hout 14 (by kernel_rfl)
              have h94 : A.tmps[94]?.getD undef = .bool true := hdep 94 (by kernel_rfl)
              refine if_yes ((wanted_is (j := 2) (b := true) (by kernel_rfl) (by kernel_rfl) h94).trans rfl) ?_
              simp [go_sem, h14, hq1, hq2, hq1', hq2', hv]
              exact hK.out _ _ (RM.refl _ _ _ _) rfl
            · intro A wx hR hout hdep hmark K hK
              have h97 : A.tmps[97]?.getD undef = .pointer (some ⟨wr.heap.size, 0, none⟩) := hdep 97 (by kernel_rfl)
              have h94 : A.tmps[94]?.getD undef = .bool true := hdep 94 (by kernel_rfl)
              refine if_yes ((wanted_is (j := 2) (b := true) (by kernel_rfl) (by kernel_rfl) h94).trans rfl) ?_
              have l0 := keep_cell hR.1 l0
              have l1 := keep_cell hR.1 l1
              have d0 := keep_cell hR.1 d0
              have d1 := keep_cell hR.1 d1
              have d2 := keep_cell hR.1 d2
              have d3 := keep_cell hR.1 d3
              have g0 := keep_cell hR.1 g0
              have g1 := keep_cell hR.1 g1
              have g2 := keep_cell hR.1 g2
              have g3 := keep_cell hR.1 g3
              simp [go_sem, h97, l0, l1, d0, d1, d2, d3, g0, g1, g2, g3, hq1, hq2, hq1', hq2', hv]
              exact hK.out _ _ (RM.refl _ _ _ _) rfl
            · intro A wx hR hout hdep hmark K hK
              have h96 : A.tmps[96]?.getD undef = .agg #[.slice x1 x2 x3, .slice x4 x5 x6, .int .u64 (bs : Int), .slice x7 s8 x9] := hdep 96 (by kernel_rfl)
              have h98 : A.tmps[98]?.getD undef = .int .u32 (p : Int) := hdep 98 (by kernel_rfl)
              have h94 : A.tmps[94]?.getD undef = .bool true := hdep 94 (by kernel_rfl)
              refine if_yes ((wanted_is (j := 2) (b := true) (by kernel_rfl) (by kernel_rfl) h94).trans rfl) ?_
              simp [go_sem, h96, h98, hq1, hq2, hq1', hq2', hv]
              refine (KPx.out p _ (below_tr hb9 (below_tr hbz hR.1))).mono ?_
              rintro e wG ⟨rfl, hbG⟩
              rw [hpx]
              exact hK.out _ _ (RM.of hbG hR.1.size) rfl
            · intro A wx hR hout hdep hmark K hK
              have h94 : A.tmps[94]?.getD undef = .bool true := hdep 94 (by kernel_rfl)
              refine if_yes ((wanted_is (j := 2) (b := true) (by kernel_rfl) (by kernel_rfl) h94).trans rfl) ?_
              have hmm := @run_makeMap Tryz.prog 55 wx
              simp [go_sem, hmm]
              exact hK.out _ _ (RM.of ((Below.refl _ _).alloc (Nat.le_refl _) _) hR.1.size) ⟨_, [], rfl, hR.1.size, map_made prot r wx, .inl rfl⟩
            · intro A wx hR hout hdep hmark K hK
              have h3 : A.tmps[3]?.getD undef = .int .i64 prot := hout 3 (by kernel_rfl)
              have h94 : A.tmps[94]?.getD undef = .bool true := hdep 94 (by kernel_rfl)
              refine if_yes ((wanted_is (j := 2) (b := true) (by kernel_rfl) (by kernel_rfl) h94).trans rfl) ?_
              simp [go_sem, h3, hq1, hq2, hq1', hq2', hv]
              exact hK.out _ _ (RM.refl _ _ _ _) rfl
            · intro A wx hR hout hdep hmark K hK
              have h100 := hdep 100 (by kernel_rfl)
              have h101 : A.tmps[101]?.getD undef = .int .i64 prot := hdep 101 (by kernel_rfl)
              have h94 : A.tmps[94]?.getD undef = .bool true := hdep 94 (by kernel_rfl)
              refine if_yes ((wanted_is (j := 2) (b := true) (by kernel_rfl) (by kernel_rfl) h94).trans rfl) ?_
              obtain ⟨b0, L0, hv100, hBb, hMp, hG⟩ := h100
              obtain ⟨w', hrun, hRM, L', m', g', t', f'⟩ := map_ins (B := W6.heap.size) hMp hG hBb true prot rfl HPW.out
              simp [go_sem, hv100, h101, hrun]
              exact hK.out undef _ hRM ⟨fun _ => ⟨b0, L', (by show A.tmps.getD 100 undef = _; rw [Array.getD_eq_getD_getElem?]; exact hv100), m', g', t' rfl⟩, fun h => by cases h⟩
            · intro A wx hR hout hdep hmark K hK
              have h14 : A.tmps[14]?.getD undef = .pointer (some ⟨wr.heap.size, 0, none⟩) := hout 14 (by kernel_rfl)
              have h94 : A.tmps[94]?.getD undef = .bool true := hdep 94 (by kernel_rfl)
              refine if_yes ((wanted_is (j := 2) (b := true) (by kernel_rfl) (by kernel_rfl) h94).trans rfl) ?_
              simp [go_sem, h14, hq1, hq2, hq1', hq2', hv]
              exact hK.out _ _ (RM.refl _ _ _ _) rfl
            · intro A wx hR hout hdep hmark K hK
              have h102 : A.tmps[102]?.getD undef = .pointer (some ⟨wr.heap.size, 1, none⟩) := hdep 102 (by kernel_rfl)
              have h94 : A.tmps[94]?.getD undef = .bool true := hdep 94 (by kernel_rfl)
              refine if_yes ((wanted_is (j := 2) (b := true) (by kernel_rfl) (by kernel_rfl) h94).trans rfl) ?_
              have l0 := keep_cell hR.1 l0
              have l1 := keep_cell hR.1 l1
              have d0 := keep_cell hR.1 d0
              have d1 := keep_cell hR.1 d1
              have d2 := keep_cell hR.1 d2
              have d3 := keep_cell hR.1 d3
              have g0 := keep_cell hR.1 g0
              have g1 := keep_cell hR.1 g1
              have g2 := keep_cell hR.1 g2
              have g3 := keep_cell hR.1 g3
              simp [go_sem, h102, l0, l1, d0, d1, d2, d3, g0, g1, g2, g3, hq1, hq2, hq1', hq2', hv]
              exact hK.out _ _ (RM.refl _ _ _ _) rfl
            · intro A wx hR hout hdep hmark K hK
              have h100 := hdep 100 (by kernel_rfl)
              have h103 : A.tmps[103]?.getD undef = .int .i64 r := hdep 103 (by kernel_rfl)
              have h94 : A.tmps[94]?.getD undef = .bool true := hdep 94 (by kernel_rfl)
              refine if_yes ((wanted_is (j := 2) (b := true) (by kernel_rfl) (by kernel_rfl) h94).trans rfl) ?_
              obtain ⟨b0, L0, hv100, hBb, hMp, hG⟩ := h100
              obtain ⟨w', hrun, hRM, L', m', g', t', f'⟩ := map_ins (B := W6.heap.size) hMp hG hBb false r rfl hwr
              simp [go_sem, hv100, h103, hrun]
              exact hK.out undef _ hRM ⟨fun h => (by cases h), fun _ => ⟨b0, L', (by show A.tmps.getD 100 undef = _; rw [Array.getD_eq_getD_getElem?]; exact hv100), m', g', f' rfl⟩⟩
            · intro A wx hR hout hdep hmark K hK
              have h100 := hdep 100 (by kernel_rfl)
              have h94 : A.tmps[94]?.getD undef = .bool true := hdep 94 (by kernel_rfl)
              refine if_yes ((wanted_is (j := 2) (b := true) (by kernel_rfl) (by kernel_rfl) h94).trans rfl) ?_
              obtain ⟨b0, L0, hv100, hBb, hMp, hG⟩ := h100
              obtain ⟨b1, L1, e1, m1, g1, t1⟩ := (hmark 10 (by kernel_rfl)).1 rfl
              obtain ⟨b2, L2, e2, m2, g2, t2⟩ := (hmark 13 (by kernel_rfl)).2 rfl
              have e1' : A.tmps.getD 100 undef = .map (some b1) := e1
              have e2' : A.tmps.getD 100 undef = .map (some b2) := e2
              rw [Array.getD_eq_getD_getElem?, hv100] at e1' e2'
              cases e1'
              cases e2'
              obtain rfl := hMp.one m1
              obtain rfl := hMp.one m2
              simp [go_sem, hv100]
              exact hK.out _ _ (RM.refl _ _ _ _) ⟨b0, L0, rfl, hMp, hG, t1, t2⟩
            · intro A wx hR hout hdep hmark K hK
              have h15 : A.tmps[15]?.getD undef = .bool false := hout 15 (by kernel_rfl)
              have h94 : A.tmps[94]?.getD undef = .bool true := hdep 94 (by kernel_rfl)
              refine if_yes ((wanted_is (j := 2) (b := true) (by kernel_rfl) (by kernel_rfl) h94).trans rfl) ?_
              simp [go_sem, h15, hq1, hq2, hq1', hq2', hv]
              exact hK.out _ _ (RM.refl _ _ _ _) rfl
            · intro A wx hR hout hdep hmark K hK
              have h104 := hdep 104 (by kernel_rfl)
              have h105 : A.tmps[105]?.getD undef = .bool false := hdep 105 (by kernel_rfl)
              have h94 : A.tmps[94]?.getD undef = .bool true := hdep 94 (by kernel_rfl)
              refine if_yes ((wanted_is (j := 2) (b := true) (by kernel_rfl) (by kernel_rfl) h94).trans rfl) ?_
              obtain ⟨b0, L0, hv104, m1, g1, t1, f1⟩ := h104
              have hrun := map_look m1 t1 f1 false
              simp only [if_true, Bool.false_eq_true, if_false] at hrun
              simp [go_sem, hv104, h105, hrun]
              exact hK.out _ _ (RM.refl _ _ _ _) rfl
            · intro A wx hR hout hdep hmark K hK
              have h99 : A.tmps[99]?.getD undef = .int .i64 r := hdep 99 (by kernel_rfl)
              have h106 : A.tmps[106]?.getD undef = .int .i64 r := hdep 106 (by kernel_rfl)
              have h94 : A.tmps[94]?.getD undef = .bool true := hdep 94 (by kernel_rfl)
              refine if_yes ((wanted_is (j := 2) (b := true) (by kernel_rfl) (by kernel_rfl) h94).trans rfl) ?_
              simp [go_sem, h99, h106, hq1, hq2, hq1', hq2', hv]
              exact hK.out _ _ (RM.refl _ _ _ _) rfl
            · intro A wx hR hout hdep hmark K hK
              have h94 : A.tmps[94]?.getD undef = .bool true := hdep 94 (by kernel_rfl)
              have h107 : A.tmps[107]?.getD undef = .bool false := hdep 107 (by kernel_rfl)
              refine if_yes (by kernel_rfl) ?_
              simp [go_sem, h94, h107, hq1, hq2, hq1', hq2', hv]
              exact hK.out _ _ (RM.refl _ _ _ _) rfl
            · intro A wx hR hout hdep hmark K hK
              have h108 : A.tmps[108]?.getD undef = .bool false := hdep 108 (by kernel_rfl)
              refine if_yes (by kernel_rfl) ?_
              simp [go_sem, h108, hq1, hq2, hq1', hq2', hv]
              exact hK.out _ _ (RM.refl _ _ _ _) rfl
            · intro A wx hR hout hdep hmark K hK
              have h12 : A.tmps[12]?.getD undef = .int .i64 0 := hout 12 (by kernel_rfl)
              have h109 : A.tmps[109]?.getD undef = .bool false := hdep 109 (by kernel_rfl)
              refine if_yes ((wanted_is (j := 19) (b := false) (by kernel_rfl) (by kernel_rfl) h109).trans rfl) ?_
              simp [go_sem, h12, hq1, hq2, hq1', hq2', hv]
              exact hK.out _ _ (RM.refl _ _ _ _) rfl
            · intro A wx hR hout hdep hmark K hK
              have h110 : A.tmps[110]?.getD undef = .int .i64 0 := hdep 110 (by kernel_rfl)
              have h109 : A.tmps[109]?.getD undef = .bool false := hdep 109 (by kernel_rfl)
              refine if_yes ((wanted_is (j := 19) (b := false) (by kernel_rfl) (by kernel_rfl) h109).trans rfl) ?_
              simp [go_sem, h110, hq1, hq2, hq1', hq2', hv]
              exact hK.out _ _ (RM.refl _ _ _ _) rfl
            · intro A wx hR hout hdep hmark K hK
              have h111 : A.tmps[111]?.getD undef = .bool true := hdep 111 (by kernel_rfl)
              have h109 : A.tmps[109]?.getD undef = .bool false := hdep 109 (by kernel_rfl)
              refine if_yes ((wanted_is (j := 19) (b := false) (by kernel_rfl) (by kernel_rfl) h109).trans rfl) ?_
              simp [go_sem, h111, hq1, hq2, hq1', hq2', hv]
              exact hK.out _ _ (RM.refl _ _ _ _) rfl
            · intro A wx hR hout hdep hmark K hK
              have h11 : A.tmps[11]?.getD undef = .pointer (some ⟨w4.heap.size, 0, none⟩) := hout 11 (by kernel_rfl)
              have h112 : A.tmps[112]?.getD undef = .bool true := hdep 112 (by kernel_rfl)
              refine if_yes ((wanted_is (j := 22) (b := true) (by kernel_rfl) (by kernel_rfl) h112).trans rfl) ?_
              simp [go_sem, h11, hq1, hq2, hq1', hq2', hv]
              exact hK.out _ _ (RM.refl _ _ _ _) rfl
            · intro A wx hR hout hdep hmark K hK
              have h113 : A.tmps[113]?.getD undef = .pointer (some ⟨w4.heap.size, 0, none⟩) := hdep 113 (by kernel_rfl)
              have h112 : A.tmps[112]?.getD undef = .bool true := hdep 112 (by kernel_rfl)
              refine if_yes ((wanted_is (j := 22) (b := true) (by kernel_rfl) (by kernel_rfl) h112).trans rfl) ?_
              have l0 := keep_cell hR.1 l0
              have l1 := keep_cell hR.1 l1
              have d0 := keep_cell hR.1 d0
              have d1 := keep_cell hR.1 d1
              have d2 := keep_cell hR.1 d2
              have d3 := keep_cell hR.1 d3
              have g0 := keep_cell hR.1 g0
              have g1 := keep_cell hR.1 g1
              have g2 := keep_cell hR.1 g2
              have g3 := keep_cell hR.1 g3
              simp [go_sem, h113, l0, l1, d0, d1, d2, d3, g0, g1, g2, g3, hq1, hq2, hq1', hq2', hv]
              exact hK.out _ _ (RM.refl _ _ _ _) rfl
            · intro A wx hR hout hdep hmark K hK
              have h14 : A.tmps[14]?.getD undef = .pointer (some ⟨wr.heap.size, 0, none⟩) := hout 14 (by kernel_rfl)
              have h112 : A.tmps[112]?.getD undef = .bool true := hdep 112 (by kernel_rfl)
              refine if_yes ((wanted_is (j := 22) (b := true) (by kernel_rfl) (by kernel_rfl) h112).trans rfl) ?_
              simp [go_sem, h14, hq1, hq2, hq1', hq2', hv]
              exact hK.out _ _ (RM.refl _ _ _ _) rfl
            · intro A wx hR hout hdep hmark K hK
              have h115 : A.tmps[115]?.getD undef = .pointer (some ⟨wr.heap.size, 0, none⟩) := hdep 115 (by kernel_rfl)
              have h112 : A.tmps[112]?.getD undef = .bool true := hdep 112 (by kernel_rfl)
              refine if_yes ((wanted_is (j := 22) (b := true) (by kernel_rfl) (by kernel_rfl) h112).trans rfl) ?_
              have l0 := keep_cell hR.1 l0
              have l1 := keep_cell hR.1 l1
              have d0 := keep_cell hR.1 d0
              have d1 := keep_cell hR.1 d1
              have d2 := keep_cell hR.1 d2
              have d3 := keep_cell hR.1 d3
              have g0 := keep_cell hR.1 g0
              have g1 := keep_cell hR.1 g1
              have g2 := keep_cell hR.1 g2
              have g3 := keep_cell hR.1 g3
              simp [go_sem, h115, l0, l1, d0, d1, d2, d3, g0, g1, g2, g3, hq1, hq2, hq1', hq2', hv]
              exact hK.out _ _ (RM.refl _ _ _ _) rfl
            · intro A wx hR hout hdep hmark K hK
              have h114 : A.tmps[114]?.getD undef = .agg #[.slice y1 y2 y3, .slice y4 y5 y6, .int .u64 (bs : Int), .slice y7 y8 y9] := hdep 114 (by kernel_rfl)
              have h116 : A.tmps[116]?.getD undef = .int .u32 (p : Int) := hdep 116 (by kernel_rfl)
              have h112 : A.tmps[112]?.getD undef = .bool true := hdep 112 (by kernel_rfl)
              refine if_yes ((wanted_is (j := 22) (b := true) (by kernel_rfl) (by kernel_rfl) h112).trans rfl) ?_
              simp [go_sem, h114, h116, hq1, hq2, hq1', hq2', hv]
              refine (KPy.out p _ (below_tr hb9 (below_tr hbz hR.1))).mono ?_
              rintro e wG ⟨rfl, hbG⟩
              rw [hpy]
              exact hK.out _ _ (RM.of hbG hR.1.size) rfl
            · intro A wx hR hout hdep hmark K hK
              have h117 : A.tmps[117]?.getD undef = .int .i64 vy := hdep 117 (by kernel_rfl)
              have h112 : A.tmps[112]?.getD undef = .bool true := hdep 112 (by kernel_rfl)
              refine if_yes ((wanted_is (j := 22) (b := true) (by kernel_rfl) (by kernel_rfl) h112).trans rfl) ?_
              simp [go_sem, h117, hq1, hq2, hq1', hq2', hv]
              exact hK.out _ _ (RM.refl _ _ _ _) rfl
            · intro A wx hR hout hdep hmark K hK
              have h15 : A.tmps[15]?.getD undef = .bool false := hout 15 (by kernel_rfl)
              have h112 : A.tmps[112]?.getD undef = .bool true := hdep 112 (by kernel_rfl)
              refine if_yes ((wanted_is (j := 22) (b := true) (by kernel_rfl) (by kernel_rfl) h112).trans rfl) ?_
              simp [go_sem, h15, hq1, hq2, hq1', hq2', hv]
              exact hK.out _ _ (RM.refl _ _ _ _) rfl
            · intro A wx hR hout hdep hmark K hK
              have h118 : A.tmps[118]?.getD undef = .bool true := hdep 118 (by kernel_rfl)
              have h119 : A.tmps[119]?.getD undef = .bool false := hdep 119 (by kernel_rfl)
              have h112 : A.tmps[112]?.getD undef = .bool true := hdep 112 (by kernel_rfl)
              refine if_yes ((wanted_is (j := 22) (b := true) (by kernel_rfl) (by kernel_rfl) h112).trans rfl) ?_
              simp [go_sem, h118, h119, hq1, hq2, hq1', hq2', hv]
              exact hK.out _ _ (RM.refl _ _ _ _) rfl
            · intro A wx hR hout hdep hmark K hK
              have h112 : A.tmps[112]?.getD undef = .bool true := hdep 112 (by kernel_rfl)
              have h120 : A.tmps[120]?.getD undef = .bool false := hdep 120 (by kernel_rfl)
              have h109 : A.tmps[109]?.getD undef = .bool false := hdep 109 (by kernel_rfl)
              refine if_yes ((wanted_is (j := 19) (b := false) (by kernel_rfl) (by kernel_rfl) h109).trans rfl) ?_
              simp [go_sem, h112, h120, hq1, hq2, hq1', hq2', hv]
              exact hK.out _ _ (RM.refl _ _ _ _) rfl
            · intro A wx hR hout hdep hmark K hK
              have h109 : A.tmps[109]?.getD undef = .bool false := hdep 109 (by kernel_rfl)
              have h121 : A.tmps[121]?.getD undef = .bool false := hdep 121 (by kernel_rfl)
              refine if_yes (by kernel_rfl) ?_
              simp [go_sem, h109, h121, hq1, hq2, hq1', hq2', hv]
              exact hK.out _ _ (RM.refl _ _ _ _) rfl
            simp only [putSl, Act.put, List.setIfInBounds_toArray, List.set_cons_zero, List.set_cons_succ]
            have hz : f 122 = .bool false := hf 122 (by kernel_rfl)
            rw [hz]
            have hbz := below_tr hbz hR.1
            clear hf hz
            go_wp2
            go_roundw
            case rel => exact ⟨k + 1, by omega, by go_num, hbz⟩
            case measure => simp [intOf]; omega
          · obtain ⟨q, hq⟩ : ∃ z, z = p - fp := ⟨_, rfl⟩
            have t1 : IntKind.u32.wrap ((p : Int) - (fp : Int)) = (q : Int) := by rw [IntKind.wrap_u32]; omega
            have t2 : ((p : Int) - (fp : Int)) % 4294967296 = (q : Int) := by omega
            have hd1 : (fp ≤ p) = True := by simp; omega
            by_cases hqk : q < kk
            · have hd2 : (q < kk) = True := by simp [hqk]
              have hi : inR a n p = true := by unfold inR; rw [← HFP.out, ← HKK.out]; simp; omega
              rw [hi, if_pos rfl] at hpx
              rw [hi] at hpy
              obtain ⟨vy, hvy⟩ : ∃ z, z = (-1 : Int) := ⟨_, rfl⟩
              rw [if_pos rfl, ← hvy] at hpy
              have hv : ((0 : Int) ≤ vy) = False := by simp; omega
              clear hvy
              clear hi
              clear hpf hq hqk
              go_wp2
              refine wp_region_slots (R := Ext) [⟨77, fun v _ => v = .pointer (some ⟨wr.heap.size, 0, none⟩), fun _ _ _ _ h => h⟩, ⟨78, fun v _ => v = .int .u32 (p : Int), fun _ _ _ _ h => h⟩, ⟨79, fun v _ => v = .int .u32 (a : Int), fun _ _ _ _ h => h⟩, ⟨80, fun v _ => v = .int .u32 (fp : Int), fun _ _ _ _ h => h⟩, ⟨81, fun v _ => v = .bool true, fun _ _ _ _ h => h⟩, ⟨82, fun v _ => v = .bool true, fun _ _ _ _ h => h⟩, ⟨83, fun v _ => v = .pointer (some ⟨wr.heap.size, 0, none⟩), fun _ _ _ _ h => h⟩, ⟨84, fun v _ => v = .int .u32 (p : Int), fun _ _ _ _ h => h⟩, ⟨85, fun v _ => v = .int .u32 (a : Int), fun _ _ _ _ h => h⟩, ⟨86, fun v _ => v = .int .u32 (fp : Int), fun _ _ _ _ h => h⟩, ⟨87, fun v _ => v = .int .u32 (q : Int), fun _ _ _ _ h => h⟩, ⟨88, fun v _ => v = .int .u32 (n : Int), fun _ _ _ _ h => h⟩, ⟨89, fun v _ => v = .int .u32 (kk : Int), fun _ _ _ _ h => h⟩, ⟨90, fun v _ => v = .bool true, fun _ _ _ _ h => h⟩, ⟨91, fun v _ => v = .bool true, fun _ _ _ _ h => h⟩, ⟨15, fun v _ => v = .bool true, fun _ _ _ _ h => h⟩] _ (by kernel_rfl) rfl (by kernel_rfl) (Below.drew (Below.refl _ _)) (fun _ _ _ h1 h2 => below_tr h1 h2) (fun QQ => ⟨?_, ?_, ?_, ?_, ?_, ?_, ?_, ?_, ?_, ?_, ?_, ?_, ?_, ?_, ?_, ?_, trivial⟩) (fun f wy hR hf => ?_)
              · intro A wx hR hout hdep K hK
                have h14 : A.tmps[14]?.getD undef = .pointer (some ⟨wr.heap.size, 0, none⟩) := hout 14 (by kernel_rfl)
                refine if_yes (by kernel_rfl) ?_
                simp [go_sem, h14, hd1, hd2, t1, t2, z1, z2, z2', z3]
                exact hK.out _ _ (Below.refl _ _) rfl
              · intro A wx hR hout hdep K hK
                have h77 : A.tmps[77]?.getD undef = .pointer (some ⟨wr.heap.size, 0, none⟩) := hdep 77 (by kernel_rfl)
                refine if_yes (by kernel_rfl) ?_
                have l0 := keep_cell hR l0
                have l1 := keep_cell hR l1
                simp [go_sem, h77, l0, l1, hd1, hd2, t1, t2, z1, z2, z2', z3]
                exact hK.out _ _ (Below.refl _ _) rfl
              · intro A wx hR hout hdep K hK
                have h1 : A.tmps[1]?.getD undef = .int .u32 (a : Int) := hout 1 (by kernel_rfl)
                refine if_yes (by kernel_rfl) ?_
                simp [go_sem, h1, hd1, hd2, t1, t2, z1, z2, z2', z3]
                exact hK.out _ _ (Below.refl _ _) rfl
              · intro A wx hR hout hdep K hK
                have h79 : A.tmps[79]?.getD undef = .int .u32 (a : Int) := hdep 79 (by kernel_rfl)
                refine if_yes (by kernel_rfl) ?_
                simp [go_sem, h79, hd1, hd2, t1, t2, z1, z2, z2', z3]
                exact hK.out _ _ (Below.refl _ _) rfl
              · intro A wx hR hout hdep K hK
                have h78 : A.tmps[78]?.getD undef = .int .u32 (p : Int) := hdep 78 (by kernel_rfl)
                have h80 : A.tmps[80]?.getD undef = .int .u32 (fp : Int) := hdep 80 (by kernel_rfl)
                refine if_yes (by kernel_rfl) ?_
                simp [go_sem, h78, h80, hd1, hd2, t1, t2, z1, z2, z2', z3]
                exact hK.out _ _ (Below.refl _ _) rfl
              · intro A wx hR hout hdep K hK
                have h81 : A.tmps[81]?.getD undef = .bool true := hdep 81 (by kernel_rfl)
                refine if_yes (by kernel_rfl) ?_
                simp [go_sem, h81, hd1, hd2, t1, t2, z1, z2, z2', z3]
                exact hK.out _ _ (Below.refl _ _) rfl
              · intro A wx hR hout hdep K hK
                have h14 : A.tmps[14]?.getD undef = .pointer (some ⟨wr.heap.size, 0, none⟩) := hout 14 (by kernel_rfl)
                have h82 : A.tmps[82]?.getD undef = .bool true := hdep 82 (by kernel_rfl)
                refine if_yes ((wanted_is (j := 5) (b := true) (by kernel_rfl) (by kernel_rfl) h82).trans rfl) ?_
                simp [go_sem, h14, hd1, hd2, t1, t2, z1, z2, z2', z3]
                exact hK.out _ _ (Below.refl _ _) rfl
              · intro A wx hR hout hdep K hK
                have h83 : A.tmps[83]?.getD undef = .pointer (some ⟨wr.heap.size, 0, none⟩) := hdep 83 (by kernel_rfl)
                have h82 : A.tmps[82]?.getD undef = .bool true := hdep 82 (by kernel_rfl)
                refine if_yes ((wanted_is (j := 5) (b := true) (by kernel_rfl) (by kernel_rfl) h82).trans rfl) ?_
                have l0 := keep_cell hR l0
                have l1 := keep_cell hR l1
                simp [go_sem, h83, l0, l1, hd1, hd2, t1, t2, z1, z2, z2', z3]
                exact hK.out _ _ (Below.refl _ _) rfl
              · intro A wx hR hout hdep K hK
                have h1 : A.tmps[1]?.getD undef = .int .u32 (a : Int) := hout 1 (by kernel_rfl)
                have h82 : A.tmps[82]?.getD undef = .bool true := hdep 82 (by kernel_rfl)
                refine if_yes ((wanted_is (j := 5) (b := true) (by kernel_rfl) (by kernel_rfl) h82).trans rfl) ?_
                simp [go_sem, h1, hd1, hd2, t1, t2, z1, z2, z2', z3]
                exact hK.out _ _ (Below.refl _ _) rfl
              · intro A wx hR hout hdep K hK
                have h85 : A.tmps[85]?.getD undef = .int .u32 (a : Int) := hdep 85 (by kernel_rfl)
                have h82 : A.tmps[82]?.getD undef = .bool true := hdep 82 (by kernel_rfl)
                refine if_yes ((wanted_is (j := 5) (b := true) (by kernel_rfl) (by kernel_rfl) h82).trans rfl) ?_
                simp [go_sem, h85, hd1, hd2, t1, t2, z1, z2, z2', z3]
                exact hK.out _ _ (Below.refl _ _) rfl
              · intro A wx hR hout hdep K hK
                have h84 : A.tmps[84]?.getD undef = .int .u32 (p : Int) := hdep 84 (by kernel_rfl)
                have h86 : A.tmps[86]?.getD undef = .int .u32 (fp : Int) := hdep 86 (by kernel_rfl)
                have h82 : A.tmps[82]?.getD undef = .bool true := hdep 82 (by kernel_rfl)
                refine if_yes ((wanted_is (j := 5) (b := true) (by kernel_rfl) (by kernel_rfl) h82).trans rfl) ?_
                simp [go_sem, h84, h86, hd1, hd2, t1, t2, z1, z2, z2', z3]
                exact hK.out _ _ (Below.refl _ _) rfl
              · intro A wx hR hout hdep K hK
                have h2 : A.tmps[2]?.getD undef = .int .u32 (n : Int) := hout 2 (by kernel_rfl)
                have h82 : A.tmps[82]?.getD undef = .bool true := hdep 82 (by kernel_rfl)
                refine if_yes ((wanted_is (j := 5) (b := true) (by kernel_rfl) (by kernel_rfl) h82).trans rfl) ?_
                simp [go_sem, h2, hd1, hd2, t1, t2, z1, z2, z2', z3]
                exact hK.out _ _ (Below.refl _ _) rfl
              · intro A wx hR hout hdep K hK
                have h88 : A.tmps[88]?.getD undef = .int .u32 (n : Int) := hdep 88 (by kernel_rfl)
                have h82 : A.tmps[82]?.getD undef = .bool true := hdep 82 (by kernel_rfl)
                refine if_yes ((wanted_is (j := 5) (b := true) (by kernel_rfl) (by kernel_rfl) h82).trans rfl) ?_
                simp [go_sem, h88, hd1, hd2, t1, t2, z1, z2, z2', z3]
                refine (K20.out wx).mono ?_
                rintro e wG ⟨rfl, rfl⟩
                exact hK.out _ _ (Below.refl _ _) rfl
              · intro A wx hR hout hdep K hK
                have h87 : A.tmps[87]?.getD undef = .int .u32 (q : Int) := hdep 87 (by kernel_rfl)
                have h89 : A.tmps[89]?.getD undef = .int .u32 (kk : Int) := hdep 89 (by kernel_rfl)
                have h82 : A.tmps[82]?.getD undef = .bool true := hdep 82 (by kernel_rfl)
                refine if_yes ((wanted_is (j := 5) (b := true) (by kernel_rfl) (by kernel_rfl) h82).trans rfl) ?_
                simp [go_sem, h87, h89, hd1, hd2, t1, t2, z1, z2, z2', z3]
                exact hK.out _ _ (Below.refl _ _) rfl
              · intro A wx hR hout hdep K hK
                have h82 : A.tmps[82]?.getD undef = .bool true := hdep 82 (by kernel_rfl)
                have h90 : A.tmps[90]?.getD undef = .bool true := hdep 90 (by kernel_rfl)
                refine if_yes (by kernel_rfl) ?_
                simp [go_sem, h82, h90, hd1, hd2, t1, t2, z1, z2, z2', z3]
                exact hK.out _ _ (Below.refl _ _) rfl
              · intro A wx hR hout hdep K hK
                have h91 : A.tmps[91]?.getD undef = .bool true := hdep 91 (by kernel_rfl)
                refine if_yes (by kernel_rfl) ?_
                simp [go_sem, h91, hd1, hd2, t1, t2, z1, z2, z2', z3]
                exact hK.out _ _ (Below.refl _ _) rfl
              simp only [putSl, Act.put, List.setIfInBounds_toArray, List.set_cons_zero, List.set_cons_succ]
              have hz : f 15 = .bool true := hf 15 (by kernel_rfl)
              rw [hz]
              have hbz := below_tr (below_tr hbr hb5) hR
              have l0 := keep_cell hR l0
              have l1 := keep_cell hR l1
              have d0 := keep_cell hR d0
              have d1 := keep_cell hR d1
              have d2 := keep_cell hR d2
              have d3 := keep_cell hR d3
              have g0 := keep_cell hR g0
              have g1 := keep_cell hR g1
              have g2 := keep_cell hR g2
              have g3 := keep_cell hR g3
              clear hf hz hR
              obtain ⟨W6, rfl⟩ : ∃ z, z = wy := ⟨_, rfl⟩
              go_wp2
              refine wp_region_marks (R := RM prot r W6.heap.size) [⟨92, fun v _ => v = .int .i64 0, fun _ _ _ _ h => h⟩, ⟨93, fun v _ => v = .bool true, fun _ _ _ _ h => h⟩, ⟨94, fun v _ => v = .bool true, fun _ _ _ _ h => h⟩, ⟨95, fun v _ => v = .pointer (some ⟨w3.heap.size, 0, none⟩), fun _ _ _ _ h => h⟩, ⟨96, fun v _ => v = .agg #[.slice x1 x2 x3, .slice x4 x5 x6, .int .u64 (bs : Int), .slice x7 s8 x9], fun _ _ _ _ h => h⟩, ⟨97, fun v _ => v = .pointer (some ⟨wr.heap.size, 0, none⟩), fun _ _ _ _ h => h⟩, ⟨98, fun v _ => v = .int .u32 (p : Int), fun _ _ _ _ h => h⟩, ⟨99, fun v _ => v = .int .i64 prot, fun _ _ _ _ h => h⟩, ⟨100, fun v w => ∃ b L, v = .map (some b) ∧ W6.heap.size ≤ b ∧ MapAt w b L ∧ GoodL prot r L, fun v w w' hR ⟨b, L, e, hB, m, g⟩ => (hR.2 b L m g).elim fun L' h => ⟨b, L', e, hB, h.1, h.2.1⟩⟩, ⟨101, fun v _ => v = .int .i64 prot, fun _ _ _ _ h => h⟩, ⟨102, fun v _ => v = .pointer (some ⟨wr.heap.size, 1, none⟩), fun _ _ _ _ h => h⟩, ⟨103, fun v _ => v = .int .i64 r, fun _ _ _ _ h => h⟩, ⟨104, fun v w => ∃ b L, v = .map (some b) ∧ MapAt w b L ∧ GoodL prot r L ∧ HasT prot r L ∧ HasF prot r L, fun v w w' hR ⟨b, L, e, m, g, t, f⟩ => (hR.2 b L m g).elim fun L' h => ⟨b, L', e, h.1, h.2.1, h.2.2.1 t, h.2.2.2 f⟩⟩, ⟨105, fun v _ => v = .bool true, fun _ _ _ _ h => h⟩, ⟨106, fun v _ => v = .int .i64 prot, fun _ _ _ _ h => h⟩, ⟨107, fun v _ => v = .bool false, fun _ _ _ _ h => h⟩, ⟨108, fun v _ => v = .bool false, fun _ _ _ _ h => h⟩, ⟨109, fun v _ => v = .bool false, fun _ _ _ _ h => h⟩, ⟨110, fun v _ => v = .int .i64 0, fun _ _ _ _ h => h⟩, ⟨111, fun v _ => v = .bool true, fun _ _ _ _ h => h⟩, ⟨112, fun v _ => v = .bool true, fun _ _ _ _ h => h⟩, ⟨113, fun v _ => v = .pointer (some ⟨w4.heap.size, 0, none⟩), fun _ _ _ _ h => h⟩, ⟨114, fun v _ => v = .agg #[.slice y1 y2 y3, .slice y4 y5 y6, .int .u64 (bs : Int), .slice y7 y8 y9], fun _ _ _ _ h => h⟩, ⟨115, fun v _ => v = .pointer (some ⟨wr.heap.size, 0, none⟩), fun _ _ _ _ h => h⟩, ⟨116, fun v _ => v = .int .u32 (p : Int), fun _ _ _ _ h => h⟩, ⟨117, fun v _ => v = .int .i64 vy, fun _ _ _ _ h => h⟩, ⟨118, fun v _ => v = .bool false, fun _ _ _ _ h => h⟩, ⟨119, fun v _ => v = .bool true, fun _ _ _ _ h => h⟩, ⟨120, fun v _ => v = .bool false, fun _ _ _ _ h => h⟩, ⟨121, fun v _ => v = .bool false, fun _ _ _ _ h => h⟩, ⟨122, fun v _ => v = .bool false, fun _ _ _ _ h => h⟩] (MarkM prot r) depM _ (by kernel_rfl) rfl (by kernel_rfl) (by kernel_rfl) (RM.drew _ _ _ _) (fun _ _ _ h1 h2 => h1.trans h2) (fun i f f' w w' => MarkM.keep i f f' w w') (fun QQ => ⟨?_, ?_, ?_, ?_, ?_, ?_, ?_, ?_, ?_, ?_, ?_, ?_, ?_, ?_, ?_, ?_, ?_, ?_, ?_, ?_, ?_, ?_, ?_, ?_, ?_, ?_, ?_, ?_, ?_, ?_, ?_, ?_, ?_, trivial⟩) (fun f wy hR hf => ?_)
              · intro A wx hR hout hdep hmark K hK
                have h10 : A.tmps[10]?.getD undef = .int .i64 0 := hout 10 (by kernel_rfl)
                refine if_yes (by kernel_rfl) ?_
                simp [go_sem, h10, hq1, hq2, hq1', hq2', hv]
                exact hK.out _ _ (RM.refl _ _ _ _) rfl
              · intro A wx hR hout hdep hmark K hK
                have h92 : A.tmps[92]?.getD undef = .int .i64 0 := hdep 92 (by kernel_rfl)
                refine if_yes (by kernel_rfl) ?_
                simp [go_sem, h92, hq1, hq2, hq1', hq2', hv]
                exact hK.out _ _ (RM.refl _ _ _ _) rfl
              · intro A wx hR hout hdep hmark K hK
                have h93 : A.tmps[93]?.getD undef = .bool true := hdep 93 (by kernel_rfl)
                refine if_yes (by kernel_rfl) ?_
                simp [go_sem, h93, hq1, hq2, hq1', hq2', hv]
                exact hK.out _ _ (RM.refl _ _ _ _) rfl
              · intro A wx hR hout hdep hmark K hK
                have h9 : A.tmps[9]?.getD undef = .pointer (some ⟨w3.heap.size, 0, none⟩) := hout 9 (by kernel_rfl)
                have h94 : A.tmps[94]?.getD undef = .bool true := hdep 94 (by kernel_rfl)
                refine if_yes ((wanted_is (j := 2) (b := true) (by kernel_rfl) (by kernel_rfl) h94).trans rfl) ?_
                simp [go_sem, h9, hq1, hq2, hq1', hq2', hv]
                exact hK.out _ _ (RM.refl _ _ _ _) rfl
              · intro A wx hR hout hdep hmark K hK
                have h95 : A.tmps[95]?.getD undef = .pointer (some ⟨w3.heap.size, 0, none⟩) := hdep 95 (by kernel_rfl)
                have h94 : A.tmps[94]?.getD undef = .bool true := hdep 94 (by kernel_rfl)
                refine if_yes ((wanted_is (j := 2) (b := true) (by kernel_rfl) (by kernel_rfl) h94).trans rfl) ?_
                have l0 := keep_cell hR.1 l0
                have l1 := keep_cell hR.1 l1
                have d0 := keep_cell hR.1 d0
                have d1 := keep_cell hR.1 d1
                have d2 := keep_cell hR.1 d2
                have d3 := keep_cell hR.1 d3
                have g0 := keep_cell hR.1 g0
                have g1 := keep_cell hR.1 g1
                have g2 := keep_cell hR.1 g2
                have g3 := keep_cell hR.1 g3
                simp [go_sem, h95, l0, l1, d0, d1, d2, d3, g0, g1, g2, g3, hq1, hq2, hq1', hq2', hv]
                exact hK.out _ _ (RM.refl _ _ _ _) rfl
              · intro A wx hR hout hdep hmark K hK
                have h14 : A.tmps[14]?.getD undef = .pointer (some ⟨wr.heap.size, 0, none⟩) := hout 14 (by kernel_rfl)
                have h94 : A.tmps[94]?.getD undef = .bool true := hdep 94 (by kernel_rfl)
                refine if_yes ((wanted_is (j := 2) (b := true) (by kernel_rfl) (by kernel_rfl) h94).trans rfl) ?_
                simp [go_sem, h14, hq1, hq2, hq1', hq2', hv]
                exact hK.out _ _ (RM.refl _ _ _ _) rfl
              · intro A wx hR hout hdep hmark K hK
                have h97 : A.tmps[97]?.getD undef = .pointer (some ⟨wr.heap.size, 0, none⟩) := hdep 97 (by kernel_rfl)
                have h94 : A.tmps[94]?.getD undef = .bool true := hdep 94 (by kernel_rfl)
                refine if_yes ((wanted_is (j := 2) (b := true) (by kernel_rfl) (by kernel_rfl) h94).trans rfl) ?_
                have l0 := keep_cell hR.1 l0
                have l1 := keep_cell hR.1 l1
                have d0 := keep_cell hR.1 d0
                have d1 := keep_cell hR.1 d1
                have d2 := keep_cell hR.1 d2
                have d3 := keep_cell hR.1 d3
                have g0 := keep_cell hR.1 g0
                have g1 := keep_cell hR.1 g1
                have g2 := keep_cell hR.1 g2
                have g3 := keep_cell hR.1 g3
                simp [go_sem, h97, l0, l1, d0, d1, d2, d3, g0, g1, g2, g3, hq1, hq2, hq1', hq2', hv]
                exact hK.out _ _ (RM.refl _ _ _ _) rfl
              · intro A wx hR hout hdep hmark K hK
                have h96 : A.tmps[96]?.getD undef = .agg #[.slice x1 x2 x3, .slice x4 x5 x6, .int .u64 (bs : Int), .slice x7 s8 x9] := hdep 96 (by kernel_rfl)
                have h98 : A.tmps[98]?.getD undef = .int .u32 (p : Int) := hdep 98 (by kernel_rfl)
                have h94 : A.tmps[94]?.getD undef = .bool true := hdep 94 (by kernel_rfl)
                refine if_yes ((wanted_is (j := 2) (b := true) (by kernel_rfl) (by kernel_rfl) h94).trans rfl) ?_
                simp [go_sem, h96, h98, hq1, hq2, hq1', hq2', hv]
                refine (KPx.out p _ (below_tr hb9 (below_tr hbz hR.1))).mono ?_
                rintro e wG ⟨rfl, hbG⟩
                rw [hpx]
                exact hK.out _ _ (RM.of hbG hR.1.size) rfl
              · intro A wx hR hout hdep hmark K hK
                have h94 : A.tmps[94]?.getD undef = .bool true := hdep 94 (by kernel_rfl)
                refine if_yes ((wanted_is (j := 2) (b := true) (by kernel_rfl) (by kernel_rfl) h94).trans rfl) ?_
                have hmm := @run_makeMap Tryz.prog 55 wx
                simp [go_sem, hmm]
                exact hK.out _ _ (RM.of ((Below.refl _ _).alloc (Nat.le_refl _) _) hR.1.size) ⟨_, [], rfl, hR.1.size, map_made prot r wx, .inl rfl⟩
              · intro A wx hR hout hdep hmark K hK
                have h3 : A.tmps[3]?.getD undef = .int .i64 prot := hout 3 (by kernel_rfl)
                have h94 : A.tmps[94]?.getD undef = .bool true := hdep 94 (by kernel_rfl)
                refine if_yes ((wanted_is (j := 2) (b := true) (by kernel_rfl) (by kernel_rfl) h94).trans rfl) ?_
                simp [go_sem, h3, hq1, hq2, hq1', hq2', hv]
                exact hK.out _ _ (RM.refl _ _ _ _) rfl
              · intro A wx hR hout hdep hmark K hK
                have h100 := hdep 100 (by kernel_rfl)
                have h101 : A.tmps[101]?.getD undef = .int .i64 prot := hdep 101 (by kernel_rfl)
                have h94 : A.tmps[94]?.getD undef = .bool true := hdep 94 (by kernel_rfl)
                refine if_yes ((wanted_is (j := 2) (b := true) (by kernel_rfl) (by kernel_rfl) h94).trans rfl) ?_
                obtain ⟨b0, L0, hv100, hBb, hMp, hG⟩ := h100
                obtain ⟨w', hrun, hRM, L', m', g', t', f'⟩ := map_ins (B := W6.heap.size) hMp hG hBb true prot rfl HPW.out
                simp [go_sem, hv100, h101, hrun]
                exact hK.out undef _ hRM ⟨fun _ => ⟨b0, L', (by show A.tmps.getD 100 undef = _; rw [Array.getD_eq_getD_getElem?]; exact hv100), m', g', t' rfl⟩, fun h => by cases h⟩
              · intro A wx hR hout hdep hmark K hK
                have h14 : A.tmps[14]?.getD undef = .pointer (some ⟨wr.heap.size, 0, none⟩) := hout 14 (by kernel_rfl)
                have h94 : A.tmps[94]?.getD undef = .bool true := hdep 94 (by kernel_rfl)
                refine if_yes ((wanted_is (j := 2) (b := true) (by kernel_rfl) (by kernel_rfl) h94).trans rfl) ?_
                simp [go_sem, h14, hq1, hq2, hq1', hq2', hv]
                exact hK.out _ _ (RM.refl _ _ _ _) rfl
              · intro A wx hR hout hdep hmark K hK
                have h102 : A.tmps[102]?.getD undef = .pointer (some ⟨wr.heap.size, 1, none⟩) := hdep 102 (by kernel_rfl)
                have h94 : A.tmps[94]?.getD undef = .bool true := hdep 94 (by kernel_rfl)
                refine if_yes ((wanted_is (j := 2) (b := true) (by kernel_rfl) (by kernel_rfl) h94).trans rfl) ?_
                have l0 := keep_cell hR.1 l0
                have l1 := keep_cell hR.1 l1
                have d0 := keep_cell hR.1 d0
                have d1 := keep_cell hR.1 d1
                have d2 := keep_cell hR.1 d2
                have d3 := keep_cell hR.1 d3
                have g0 := keep_cell hR.1 g0
                have g1 := keep_cell hR.1 g1
                have g2 := keep_cell hR.1 g2
                have g3 := keep_cell hR.1 g3
                simp [go_sem, h102, l0, l1, d0, d1, d2, d3, g0, g1, g2, g3, hq1, hq2, hq1', hq2', hv]
                exact hK.out _ _ (RM.refl _ _ _ _) rfl
              · intro A wx hR hout hdep hmark K hK
                have h100 := hdep 100 (by kernel_rfl)
                have h103 : A.tmps[103]?.getD undef = .int .i64 r := hdep 103 (by kernel_rfl)
                have h94 : A.tmps[94]?.getD undef = .bool true := hdep 94 (by kernel_rfl)
                refine if_yes ((wanted_is (j := 2) (b := true) (by kernel_rfl) (by kernel_rfl) h94).trans rfl) ?_
                obtain ⟨b0, L0, hv100, hBb, hMp, hG⟩ := h100
                obtain ⟨w', hrun, hRM, L', m', g', t', f'⟩ := map_ins (B := W6.heap.size) hMp hG hBb false r rfl hwr
                simp [go_sem, hv100, h103, hrun]
                exact hK.out undef _ hRM ⟨fun h => (by cases h), fun _ => ⟨b0, L', (by show A.tmps.getD 100 undef = _; rw [Array.getD_eq_getD_getElem?]; exact hv100), m', g', f' rfl⟩⟩
              · intro A wx hR hout hdep hmark K hK
                have h100 := hdep 100 (by kernel_rfl)
                have h94 : A.tmps[94]?.getD undef = .bool true := hdep 94 (by kernel_rfl)
                refine if_yes ((wanted_is (j := 2) (b := true) (by kernel_rfl) (by kernel_rfl) h94).trans rfl) ?_
                obtain ⟨b0, L0, hv100, hBb, hMp, hG⟩ := h100
                obtain ⟨b1, L1, e1, m1, g1, t1⟩ := (hmark 10 (by kernel_rfl)).1 rfl
                obtain ⟨b2, L2, e2, m2, g2, t2⟩ := (hmark 13 (by kernel_rfl)).2 rfl
                have e1' : A.tmps.getD 100 undef = .map (some b1) := e1
                have e2' : A.tmps.getD 100 undef = .map (some b2) := e2
                rw [Array.getD_eq_getD_getElem?, hv100] at e1' e2'
                cases e1'
                cases e2'
                obtain rfl := hMp.one m1
                obtain rfl := hMp.one m2
                simp [go_sem, hv100]
                exact hK.out _ _ (RM.refl _ _ _ _) ⟨b0, L0, rfl, hMp, hG, t1, t2⟩
              · intro A wx hR hout hdep hmark K hK
                have h15 : A.tmps[15]?.getD undef = .bool true := hout 15 (by kernel_rfl)
                have h94 : A.tmps[94]?.getD undef = .bool true := hdep 94 (by kernel_rfl)
                refine if_yes ((wanted_is (j := 2) (b := true) (by kernel_rfl) (by kernel_rfl) h94).trans rfl) ?_
                simp [go_sem, h15, hq1, hq2, hq1', hq2', hv]
                exact hK.out _ _ (RM.refl _ _ _ _) rfl
              · intro A wx hR hout hdep hmark K hK
                have h104 := hdep 104 (by kernel_rfl)
                have h105 : A.tmps[105]?.getD undef = .bool true := hdep 105 (by kernel_rfl)
                have h94 : A.tmps[94]?.getD undef = .bool true := hdep 94 (by kernel_rfl)
                refine if_yes ((wanted_is (j := 2) (b := true) (by kernel_rfl) (by kernel_rfl) h94).trans rfl) ?_
                obtain ⟨b0, L0, hv104, m1, g1, t1, f1⟩ := h104
                have hrun := map_look m1 t1 f1 true
                simp only [if_true, Bool.false_eq_true, if_false] at hrun
                simp [go_sem, hv104, h105, hrun]
                exact hK.out _ _ (RM.refl _ _ _ _) rfl
              · intro A wx hR hout hdep hmark K hK
                have h99 : A.tmps[99]?.getD undef = .int .i64 prot := hdep 99 (by kernel_rfl)
                have h106 : A.tmps[106]?.getD undef = .int .i64 prot := hdep 106 (by kernel_rfl)
                have h94 : A.tmps[94]?.getD undef = .bool true := hdep 94 (by kernel_rfl)
                refine if_yes ((wanted_is (j := 2) (b := true) (by kernel_rfl) (by kernel_rfl) h94).trans rfl) ?_
                simp [go_sem, h99, h106, hq1, hq2, hq1', hq2', hv]
                exact hK.out _ _ (RM.refl _ _ _ _) rfl
              · intro A wx hR hout hdep hmark K hK
                have h94 : A.tmps[94]?.getD undef = .bool true := hdep 94 (by kernel_rfl)
                have h107 : A.tmps[107]?.getD undef = .bool false := hdep 107 (by kernel_rfl)
                refine if_yes (by kernel_rfl) ?_
                simp [go_sem, h94, h107, hq1, hq2, hq1', hq2', hv]
                exact hK.out _ _ (RM.refl _ _ _ _) rfl
              · intro A wx hR hout hdep hmark K hK
                have h108 : A.tmps[108]?.getD undef = .bool false := hdep 108 (by kernel_rfl)
                refine if_yes (by kernel_rfl) ?_
                simp [go_sem, h108, hq1, hq2, hq1', hq2', hv]
                exact hK.out _ _ (RM.refl _ _ _ _) rfl
              · intro A wx hR hout hdep hmark K hK
                have h12 : A.tmps[12]?.getD undef = .int .i64 0 := hout 12 (by kernel_rfl)
                have h109 : A.tmps[109]?.getD undef = .bool false := hdep 109 (by kernel_rfl)
                refine if_yes ((wanted_is (j := 19) (b := false) (by kernel_rfl) (by kernel_rfl) h109).trans rfl) ?_
                simp [go_sem, h12, hq1, hq2, hq1', hq2', hv]
                exact hK.out _ _ (RM.refl _ _ _ _) rfl
              · intro A wx hR hout hdep hmark K hK
                have h110 : A.tmps[110]?.getD undef = .int .i64 0 := hdep 110 (by kernel_rfl)
                have h109 : A.tmps[109]?.getD undef = .bool false := hdep 109 (by kernel_rfl)
                refine if_yes ((wanted_is (j := 19) (b := false) (by kernel_rfl) (by kernel_rfl) h109).trans rfl) ?_
                simp [go_sem, h110, hq1, hq2, hq1', hq2', hv]
                exact hK.out _ _ (RM.refl _ _ _ _) rfl
              · intro A wx hR hout hdep hmark K hK
                have h111 : A.tmps[111]?.getD undef = .bool true := hdep 111 (by kernel_rfl)
                have h109 : A.tmps[109]?.getD undef = .bool false := hdep 109 (by kernel_rfl)
                refine if_yes ((wanted_is (j := 19) (b := false) (by kernel_rfl) (by kernel_rfl) h109).trans rfl) ?_
                simp [go_sem, h111, hq1, hq2, hq1', hq2', hv]
                exact hK.out _ _ (RM.refl _ _ _ _) rfl
              · intro A wx hR hout hdep hmark K hK
                have h11 : A.tmps[11]?.getD undef = .pointer (some ⟨w4.heap.size, 0, none⟩) := hout 11 (by kernel_rfl)
                have h112 : A.tmps[112]?.getD undef = .bool true := hdep 112 (by kernel_rfl)
                refine if_yes ((wanted_is (j := 22) (b := true) (by kernel_rfl) (by kernel_rfl) h112).trans rfl) ?_
                simp [go_sem, h11, hq1, hq2, hq1', hq2', hv]
                exact hK.out _ _ (RM.refl _ _ _ _) rfl
              · intro A wx hR hout hdep hmark K hK
                have h113 : A.tmps[113]?.getD undef = .pointer (some ⟨w4.heap.size, 0, none⟩) := hdep 113 (by kernel_rfl)
                have h112 : A.tmps[112]?.getD undef = .bool true := hdep 112 (by kernel_rfl)
                refine if_yes ((wanted_is (j := 22) (b := true) (by kernel_rfl) (by kernel_rfl) h112).trans rfl) ?_
                have l0 := keep_cell hR.1 l0
                have l1 := keep_cell hR.1 l1
                have d0 := keep_cell hR.1 d0
                have d1 := keep_cell hR.1 d1
                have d2 := keep_cell hR.1 d2
                have d3 := keep_cell hR.1 d3
                have g0 := keep_cell hR.1 g0
                have g1 := keep_cell hR.1 g1
                have g2 := keep_cell hR.1 g2
                have g3 := keep_cell hR.1 g3
                simp [go_sem, h113, l0, l1, d0, d1, d2, d3, g0, g1, g2, g3, hq1, hq2, hq1', hq2', hv]
                exact hK.out _ _ (RM.refl _ _ _ _) rfl
              · intro A wx hR hout hdep hmark K hK
                have h14 : A.tmps[14]?.getD undef = .pointer (some ⟨wr.heap.size, 0, none⟩) := hout 14 (by kernel_rfl)
                have h112 : A.tmps[112]?.getD undef = .bool true := hdep 112 (by kernel_rfl)
                refine if_yes ((wanted_is (j := 22) (b := true) (by kernel_rfl) (by kernel_rfl) h112).trans rfl) ?_
                simp [go_sem, h14, hq1, hq2, hq1', hq2', hv]
                exact hK.out _ _ (RM.refl _ _ _ _) rfl
              · intro A wx hR hout hdep hmark K hK
                have h115 : A.tmps[115]?.getD undef = .pointer (some ⟨wr.heap.size, 0, none⟩) := hdep 115 (by kernel_rfl)
                have h112 : A.tmps[112]?.getD undef = .bool true := hdep 112 (by kernel_rfl)
                refine if_yes ((wanted_is (j := 22) (b := true) (by kernel_rfl) (by kernel_rfl) h112).trans rfl) ?_
                have l0 := keep_cell hR.1 l0
                have l1 := keep_cell hR.1 l1
                have d0 := keep_cell hR.1 d0
                have d1 := keep_cell hR.1 d1
                have d2 := keep_cell hR.1 d2
                have d3 := keep_cell hR.1 d3
                have g0 := keep_cell hR.1 g0
                have g1 := keep_cell hR.1 g1
                have g2 := keep_cell hR.1 g2
                have g3 := keep_cell hR.1 g3
                simp [go_sem, h115, l0, l1, d0, d1, d2, d3, g0, g1, g2, g3, hq1, hq2, hq1', hq2', hv]
                exact hK.out _ _ (RM.refl _ _ _ _) rfl
              · intro A wx hR hout hdep hmark K hK
                have h114 : A.tmps[114]?.getD undef = .agg #[.slice y1 y2 y3, .slice y4 y5 y6, .int .u64 (bs : Int), .slice y7 y8 y9] := hdep 114 (by kernel_rfl)
                have h116 : A.tmps[116]?.getD undef = .int .u32 (p : Int) := hdep 116 (by kernel_rfl)
                have h112 : A.tmps[112]?.getD undef = .bool true := hdep 112 (by kernel_rfl)
                refine if_yes ((wanted_is (j := 22) (b := true) (by kernel_rfl) (by kernel_rfl) h112).trans rfl) ?_
                simp [go_sem, h114, h116, hq1, hq2, hq1', hq2', hv]
                refine (KPy.out p _ (below_tr hb9 (below_tr hbz hR.1))).mono ?_
                rintro e wG ⟨rfl, hbG⟩
                rw [hpy]
                exact hK.out _ _ (RM.of hbG hR.1.size) rfl
              · intro A wx hR hout hdep hmark K hK
                have h117 : A.tmps[117]?.getD undef = .int .i64 vy := hdep 117 (by kernel_rfl)
                have h112 : A.tmps[112]?.getD undef = .bool true := hdep 112 (by kernel_rfl)
                refine if_yes ((wanted_is (j := 22) (b := true) (by kernel_rfl) (by kernel_rfl) h112).trans rfl) ?_
                simp [go_sem, h117, hq1, hq2, hq1', hq2', hv]
                exact hK.out _ _ (RM.refl _ _ _ _) rfl
              · intro A wx hR hout hdep hmark K hK
                have h15 : A.tmps[15]?.getD undef = .bool true := hout 15 (by kernel_rfl)
                have h112 : A.tmps[112]?.getD undef = .bool true := hdep 112 (by kernel_rfl)
                refine if_yes ((wanted_is (j := 22) (b := true) (by kernel_rfl) (by kernel_rfl) h112).trans rfl) ?_
                simp [go_sem, h15, hq1, hq2, hq1', hq2', hv]
                exact hK.out _ _ (RM.refl _ _ _ _) rfl
              · intro A wx hR hout hdep hmark K hK
                have h118 : A.tmps[118]?.getD undef = .bool false := hdep 118 (by kernel_rfl)
                have h119 : A.tmps[119]?.getD undef = .bool true := hdep 119 (by kernel_rfl)
                have h112 : A.tmps[112]?.getD undef = .bool true := hdep 112 (by kernel_rfl)
                refine if_yes ((wanted_is (j := 22) (b := true) (by kernel_rfl) (by kernel_rfl) h112).trans rfl) ?_
                simp [go_sem, h118, h119, hq1, hq2, hq1', hq2', hv]
                exact hK.out _ _ (RM.refl _ _ _ _) rfl
              · intro A wx hR hout hdep hmark K hK
                have h112 : A.tmps[112]?.getD undef = .bool true := hdep 112 (by kernel_rfl)
                have h120 : A.tmps[120]?.getD undef = .bool false := hdep 120 (by kernel_rfl)
                have h109 : A.tmps[109]?.getD undef = .bool false := hdep 109 (by kernel_rfl)
                refine if_yes ((wanted_is (j := 19) (b := false) (by kernel_rfl) (by kernel_rfl) h109).trans rfl) ?_
                simp [go_sem, h112, h120, hq1, hq2, hq1', hq2', hv]
                exact hK.out _ _ (RM.refl _ _ _ _) rfl
              · intro A wx hR hout hdep hmark K hK
                have h109 : A.tmps[109]?.getD undef = .bool false := hdep 109 (by kernel_rfl)
                have h121 : A.tmps[121]?.getD undef = .bool false := hdep 121 (by kernel_rfl)
                refine if_yes (by kernel_rfl) ?_
                simp [go_sem, h109, h121, hq1, hq2, hq1', hq2', hv]
                exact hK.out _ _ (RM.refl _ _ _ _) rfl
              simp only [putSl, Act.put, List.setIfInBounds_toArray, List.set_cons_zero, List.set_cons_succ]
              have hz : f 122 = .bool false := hf 122 (by kernel_rfl)
              rw [hz]
              have hbz := below_tr hbz hR.1
              clear hf hz
              go_wp2
              go_roundw
              case rel => exact ⟨k + 1, by omega, by go_num, hbz⟩
              case measure => simp [intOf]; omega
            · have hd2 : (q < kk) = False := by simp [hqk]
              have hi : inR a n p = false := by unfold inR; rw [← HFP.out, ← HKK.out]; simp; omega
              rw [hi, if_neg (by decide)] at hpx
              rw [hi] at hpy
              obtain ⟨vy, hvy⟩ : ∃ z, z = r := ⟨_, rfl⟩
              rw [if_neg (by decide), ← hvy] at hpy
              have hv : ((0 : Int) ≤ vy) = True := by simp; omega
              clear hvy
              clear hi
              clear hpf hq hqk
              go_wp2
              refine wp_region_slots (R := Ext) [⟨77, fun v _ => v = .pointer (some ⟨wr.heap.size, 0, none⟩), fun _ _ _ _ h => h⟩, ⟨78, fun v _ => v = .int .u32 (p : Int), fun _ _ _ _ h => h⟩, ⟨79, fun v _ => v = .int .u32 (a : Int), fun _ _ _ _ h => h⟩, ⟨80, fun v _ => v = .int .u32 (fp : Int), fun _ _ _ _ h => h⟩, ⟨81, fun v _ => v = .bool true, fun _ _ _ _ h => h⟩, ⟨82, fun v _ => v = .bool true, fun _ _ _ _ h => h⟩, ⟨83, fun v _ => v = .pointer (some ⟨wr.heap.size, 0, none⟩), fun _ _ _ _ h => h⟩, ⟨84, fun v _ => v = .int .u32 (p : Int), fun _ _ _ _ h => h⟩, ⟨85, fun v _ => v = .int .u32 (a : Int), fun _ _ _ _ h => h⟩, ⟨86, fun v _ => v = .int .u32 (fp : Int), fun _ _ _ _ h => h⟩, ⟨87, fun v _ => v = .int .u32 (q : Int), fun _ _ _ _ h => h⟩, ⟨88, fun v _ => v = .int .u32 (n : Int), fun _ _ _ _ h => h⟩, ⟨89, fun v _ => v = .int .u32 (kk : Int), fun _ _ _ _ h => h⟩, ⟨90, fun v _ => v = .bool false, fun _ _ _ _ h => h⟩, ⟨91, fun v _ => v = .bool false, fun _ _ _ _ h => h⟩, ⟨15, fun v _ => v = .bool false, fun _ _ _ _ h => h⟩] _ (by kernel_rfl) rfl (by kernel_rfl) (Below.drew (Below.refl _ _)) (fun _ _ _ h1 h2 => below_tr h1 h2) (fun QQ => ⟨?_, ?_, ?_, ?_, ?_, ?_, ?_, ?_, ?_, ?_, ?_, ?_, ?_, ?_, ?_, ?_, trivial⟩) (fun f wy hR hf => ?_)
              · intro A wx hR hout hdep K hK
                have h14 : A.tmps[14]?.getD undef = .pointer (some ⟨wr.heap.size, 0, none⟩) := hout 14 (by kernel_rfl)
                refine if_yes (by kernel_rfl) ?_
                simp [go_sem, h14, hd1, hd2, t1, t2, z1, z2, z2', z3]
                exact hK.out _ _ (Below.refl _ _) rfl
              · intro A wx hR hout hdep K hK
                have h77 : A.tmps[77]?.getD undef = .pointer (some ⟨wr.heap.size, 0, none⟩) := hdep 77 (by kernel_rfl)
                refine if_yes (by kernel_rfl) ?_
                have l0 := keep_cell hR l0
                have l1 := keep_cell hR l1
                simp [go_sem, h77, l0, l1, hd1, hd2, t1, t2, z1, z2, z2', z3]
                exact hK.out _ _ (Below.refl _ _) rfl
              · intro A wx hR hout hdep K hK
                have h1 : A.tmps[1]?.getD undef = .int .u32 (a : Int) := hout 1 (by kernel_rfl)
                refine if_yes (by kernel_rfl) ?_
                simp [go_sem, h1, hd1, hd2, t1, t2, z1, z2, z2', z3]
                exact hK.out _ _ (Below.refl _ _) rfl
              · intro A wx hR hout hdep K hK
                have h79 : A.tmps[79]?.getD undef = .int .u32 (a : Int) := hdep 79 (by kernel_rfl)
                refine if_yes (by kernel_rfl) ?_
                simp [go_sem, h79, hd1, hd2, t1, t2, z1, z2, z2', z3]
                exact hK.out _ _ (Below.refl _ _) rfl
              · intro A wx hR hout hdep K hK
                have h78 : A.tmps[78]?.getD undef = .int .u32 (p : Int) := hdep 78 (by kernel_rfl)
                have h80 : A.tmps[80]?.getD undef = .int .u32 (fp : Int) := hdep 80 (by kernel_rfl)
                refine if_yes (by kernel_rfl) ?_
                simp [go_sem, h78, h80, hd1, hd2, t1, t2, z1, z2, z2', z3]
                exact hK.out _ _ (Below.refl _ _) rfl
              · intro A wx hR hout hdep K hK
                have h81 : A.tmps[81]?.getD undef = .bool true := hdep 81 (by kernel_rfl)
                refine if_yes (by kernel_rfl) ?_
                simp [go_sem, h81, hd1, hd2, t1, t2, z1, z2, z2', z3]
                exact hK.out _ _ (Below.refl _ _) rfl
              · intro A wx hR hout hdep K hK
                have h14 : A.tmps[14]?.getD undef = .pointer (some ⟨wr.heap.size, 0, none⟩) := hout 14 (by kernel_rfl)
                have h82 : A.tmps[82]?.getD undef = .bool true := hdep 82 (by kernel_rfl)
                refine if_yes ((wanted_is (j := 5) (b := true) (by kernel_rfl) (by kernel_rfl) h82).trans rfl) ?_
                simp [go_sem, h14, hd1, hd2, t1, t2, z1, z2, z2', z3]
                exact hK.out _ _ (Below.refl _ _) rfl
              · intro A wx hR hout hdep K hK
                have h83 : A.tmps[83]?.getD undef = .pointer (some ⟨wr.heap.size, 0, none⟩) := hdep 83 (by kernel_rfl)
                have h82 : A.tmps[82]?.getD undef = .bool true := hdep 82 (by kernel_rfl)
                refine if_yes ((wanted_is (j := 5) (b := true) (by kernel_rfl) (by kernel_rfl) h82).trans rfl) ?_
                have l0 := keep_cell hR l0
                have l1 := keep_cell hR l1
                simp [go_sem, h83, l0, l1, hd1, hd2, t1, t2, z1, z2, z2', z3]
                exact hK.out _ _ (Below.refl _ _) rfl
              · intro A wx hR hout hdep K hK
                have h1 : A.tmps[1]?.getD undef = .int .u32 (a : Int) := hout 1 (by kernel_rfl)
                have h82 : A.tmps[82]?.getD undef = .bool true := hdep 82 (by kernel_rfl)
                refine if_yes ((wanted_is (j := 5) (b := true) (by kernel_rfl) (by kernel_rfl) h82).trans rfl) ?_
                simp [go_sem, h1, hd1, hd2, t1, t2, z1, z2, z2', z3]
                exact hK.out _ _ (Below.refl _ _) rfl
              · intro A wx hR hout hdep K hK
                have h85 : A.tmps[85]?.getD undef = .int .u32 (a : Int) := hdep 85 (by kernel_rfl)
                have h82 : A.tmps[82]?.getD undef = .bool true := hdep 82 (by kernel_rfl)
                refine if_yes ((wanted_is (j := 5) (b := true) (by kernel_rfl) (by kernel_rfl) h82).trans rfl) ?_
                simp [go_sem, h85, hd1, hd2, t1, t2, z1, z2, z2', z3]
                exact hK.out _ _ (Below.refl _ _) rfl
              · intro A wx hR hout hdep K hK
                have h84 : A.tmps[84]?.getD undef = .int .u32 (p : Int) := hdep 84 (by kernel_rfl)
                have h86 : A.tmps[86]?.getD undef = .int .u32 (fp : Int) := hdep 86 (by kernel_rfl)
                have h82 : A.tmps[82]?.getD undef = .bool true := hdep 82 (by kernel_rfl)
                refine if_yes ((wanted_is (j := 5) (b := true) (by kernel_rfl) (by kernel_rfl) h82).trans rfl) ?_
                simp [go_sem, h84, h86, hd1, hd2, t1, t2, z1, z2, z2', z3]
                exact hK.out _ _ (Below.refl _ _) rfl
              · intro A wx hR hout hdep K hK
                have h2 : A.tmps[2]?.getD undef = .int .u32 (n : Int) := hout 2 (by kernel_rfl)
                have h82 : A.tmps[82]?.getD undef = .bool true := hdep 82 (by kernel_rfl)
                refine if_yes ((wanted_is (j := 5) (b := true) (by kernel_rfl) (by kernel_rfl) h82).trans rfl) ?_
                simp [go_sem, h2, hd1, hd2, t1, t2, z1, z2, z2', z3]
                exact hK.out _ _ (Below.refl _ _) rfl
              · intro A wx hR hout hdep K hK
                have h88 : A.tmps[88]?.getD undef = .int .u32 (n : Int) := hdep 88 (by kernel_rfl)
                have h82 : A.tmps[82]?.getD undef = .bool true := hdep 82 (by kernel_rfl)
                refine if_yes ((wanted_is (j := 5) (b := true) (by kernel_rfl) (by kernel_rfl) h82).trans rfl) ?_
                simp [go_sem, h88, hd1, hd2, t1, t2, z1, z2, z2', z3]
                refine (K20.out wx).mono ?_
                rintro e wG ⟨rfl, rfl⟩
                exact hK.out _ _ (Below.refl _ _) rfl
              · intro A wx hR hout hdep K hK
                have h87 : A.tmps[87]?.getD undef = .int .u32 (q : Int) := hdep 87 (by kernel_rfl)
                have h89 : A.tmps[89]?.getD undef = .int .u32 (kk : Int) := hdep 89 (by kernel_rfl)
                have h82 : A.tmps[82]?.getD undef = .bool true := hdep 82 (by kernel_rfl)
                refine if_yes ((wanted_is (j := 5) (b := true) (by kernel_rfl) (by kernel_rfl) h82).trans rfl) ?_
                simp [go_sem, h87, h89, hd1, hd2, t1, t2, z1, z2, z2', z3]
                exact hK.out _ _ (Below.refl _ _) rfl
              · intro A wx hR hout hdep K hK
                have h82 : A.tmps[82]?.getD undef = .bool true := hdep 82 (by kernel_rfl)
                have h90 : A.tmps[90]?.getD undef = .bool false := hdep 90 (by kernel_rfl)
                refine if_yes (by kernel_rfl) ?_
                simp [go_sem, h82, h90, hd1, hd2, t1, t2, z1, z2, z2', z3]
                exact hK.out _ _ (Below.refl _ _) rfl
              · intro A wx hR hout hdep K hK
                have h91 : A.tmps[91]?.getD undef = .bool false := hdep 91 (by kernel_rfl)
                refine if_yes (by kernel_rfl) ?_
                simp [go_sem, h91, hd1, hd2, t1, t2, z1, z2, z2', z3]
                exact hK.out _ _ (Below.refl _ _) rfl
              simp only [putSl, Act.put, List.setIfInBounds_toArray, List.set_cons_zero, List.set_cons_succ]
              have hz : f 15 = .bool false := hf 15 (by kernel_rfl)
              rw [hz]
              have hbz := below_tr (below_tr hbr hb5) hR
              have l0 := keep_cell hR l0
              have l1 := keep_cell hR l1
              have d0 := keep_cell hR d0
              have d1 := keep_cell hR d1
              have d2 := keep_cell hR d2
              have d3 := keep_cell hR d3
              have g0 := keep_cell hR g0
              have g1 := keep_cell hR g1
              have g2 := keep_cell hR g2
              have g3 := keep_cell hR g3
              clear hf hz hR
              obtain ⟨W6, rfl⟩ : ∃ z, z = wy := ⟨_, rfl⟩
              go_wp2
              refine wp_region_marks (R := RM prot r W6.heap.size) [⟨92, fun v _ => v = .int .i64 0, fun _ _ _ _ h => h⟩, ⟨93, fun v _ => v = .bool true, fun _ _ _ _ h => h⟩, ⟨94, fun v _ => v = .bool true, fun _ _ _ _ h => h⟩, ⟨95, fun v _ => v = .pointer (some ⟨w3.heap.size, 0, none⟩), fun _ _ _ _ h => h⟩, ⟨96, fun v _ => v = .agg #[.slice x1 x2 x3, .slice x4 x5 x6, .int .u64 (bs : Int), .slice x7 s8 x9], fun _ _ _ _ h => h⟩, ⟨97, fun v _ => v = .pointer (some ⟨wr.heap.size, 0, none⟩), fun _ _ _ _ h => h⟩, ⟨98, fun v _ => v = .int .u32 (p : Int), fun _ _ _ _ h => h⟩, ⟨99, fun v _ => v = .int .i64 r, fun _ _ _ _ h => h⟩, ⟨100, fun v w => ∃ b L, v = .map (some b) ∧ W6.heap.size ≤ b ∧ MapAt w b L ∧ GoodL prot r L, fun v w w' hR ⟨b, L, e, hB, m, g⟩ => (hR.2 b L m g).elim fun L' h => ⟨b, L', e, hB, h.1, h.2.1⟩⟩, ⟨101, fun v _ => v = .int .i64 prot, fun _ _ _ _ h => h⟩, ⟨102, fun v _ => v = .pointer (some ⟨wr.heap.size, 1, none⟩), fun _ _ _ _ h => h⟩, ⟨103, fun v _ => v = .int .i64 r, fun _ _ _ _ h => h⟩, ⟨104, fun v w => ∃ b L, v = .map (some b) ∧ MapAt w b L ∧ GoodL prot r L ∧ HasT prot r L ∧ HasF prot r L, fun v w w' hR ⟨b, L, e, m, g, t, f⟩ => (hR.2 b L m g).elim fun L' h => ⟨b, L', e, h.1, h.2.1, h.2.2.1 t, h.2.2.2 f⟩⟩, ⟨105, fun v _ => v = .bool false, fun _ _ _ _ h => h⟩, ⟨106, fun v _ => v = .int .i64 r, fun _ _ _ _ h => h⟩, ⟨107, fun v _ => v = .bool false, fun _ _ _ _ h => h⟩, ⟨108, fun v _ => v = .bool false, fun _ _ _ _ h => h⟩, ⟨109, fun v _ => v = .bool false, fun _ _ _ _ h => h⟩, ⟨110, fun v _ => v = .int .i64 0, fun _ _ _ _ h => h⟩, ⟨111, fun v _ => v = .bool true, fun _ _ _ _ h => h⟩, ⟨112, fun v _ => v = .bool true, fun _ _ _ _ h => h⟩, ⟨113, fun v _ => v = .pointer (some ⟨w4.heap.size, 0, none⟩), fun _ _ _ _ h => h⟩, ⟨114, fun v _ => v = .agg #[.slice y1 y2 y3, .slice y4 y5 y6, .int .u64 (bs : Int), .slice y7 y8 y9], fun _ _ _ _ h => h⟩, ⟨115, fun v _ => v = .pointer (some ⟨wr.heap.size, 0, none⟩), fun _ _ _ _ h => h⟩, ⟨116, fun v _ => v = .int .u32 (p : Int), fun _ _ _ _ h => h⟩, ⟨117, fun v _ => v = .int .i64 vy, fun _ _ _ _ h => h⟩, ⟨118, fun v _ => v = .bool true, fun _ _ _ _ h => h⟩, ⟨119, fun v _ => v = .bool false, fun _ _ _ _ h => h⟩, ⟨120, fun v _ => v = .bool false, fun _ _ _ _ h => h⟩, ⟨121, fun v _ => v = .bool false, fun _ _ _ _ h => h⟩, ⟨122, fun v _ => v = .bool false, fun _ _ _ _ h => h⟩] (MarkM prot r) depM _ (by kernel_rfl) rfl (by kernel_rfl) (by kernel_rfl) (RM.drew _ _ _ _) (fun _ _ _ h1 h2 => h1.trans h2) (fun i f f' w w' => MarkM.keep i f f' w w') (fun QQ => ⟨?_, ?_, ?_, ?_, ?_, ?_, ?_, ?_, ?_, ?_, ?_, ?_, ?_, ?_, ?_, ?_, ?_, ?_, ?_, ?_, ?_, ?_, ?_, ?_, ?_, ?_, ?_, ?_, ?_, ?_, ?_, ?_, ?_, trivial⟩) (fun f wy hR hf => ?_)
              · intro A wx hR hout hdep hmark K hK
                have h10 : A.tmps[10]?.getD undef = .int .i64 0 := hout 10 (by kernel_rfl)
                refine if_yes (by kernel_rfl) ?_
                simp [go_sem, h10, hq1, hq2, hq1', hq2', hv]
                exact hK.out _ _ (RM.refl _ _ _ _) rfl
              · intro A wx hR hout hdep hmark K hK
                have h92 : A.tmps[92]?.getD undef = .int .i64 0 := hdep 92 (by kernel_rfl)
                refine if_yes (by kernel_rfl) ?_
                simp [go_sem, h92, hq1, hq2, hq1', hq2', hv]
                exact hK.out _ _ (RM.refl _ _ _ _) rfl
              · intro A wx hR hout hdep hmark K hK
                have h93 : A.tmps[93]?.getD undef = .bool true := hdep 93 (by kernel_rfl)
                refine if_yes (by kernel_rfl) ?_
                simp [go_sem, h93, hq1, hq2, hq1', hq2', hv]
                exact hK.out _ _ (RM.refl _ _ _ _) rfl
              · intro A wx hR hout hdep hmark K hK
                have h9 : A.tmps[9]?.getD undef = .pointer (some ⟨w3.heap.size, 0, none⟩) := hout 9 (by kernel_rfl)
                have h94 : A.tmps[94]?.getD undef = .bool true := hdep 94 (by kernel_rfl)
                refine if_yes ((wanted_is (j := 2) (b := true) (by kernel_rfl) (by kernel_rfl) h94).trans rfl) ?_
                simp [go_sem, h9, hq1, hq2, hq1', hq2', hv]
                exact hK.out _ _ (RM.refl _ _ _ _) rfl
              · intro A wx hR hout hdep hmark K hK
                have h95 : A.tmps[95]?.getD undef = .pointer (some ⟨w3.heap.size, 0, none⟩) := hdep 95 (by kernel_rfl)
                have h94 : A.tmps[94]?.getD undef = .bool true := hdep 94 (by kernel_rfl)
                refine if_yes ((wanted_is (j := 2) (b := true) (by kernel_rfl) (by kernel_rfl) h94).trans rfl) ?_
                have l0 := keep_cell hR.1 l0
                have l1 := keep_cell hR.1 l1
                have d0 := keep_cell hR.1 d0
                have d1 := keep_cell hR.1 d1
                have d2 := keep_cell hR.1 d2
                have d3 := keep_cell hR.1 d3
                have g0 := keep_cell hR.1 g0
                have g1 := keep_cell hR.1 g1
                have g2 := keep_cell hR.1 g2
                have g3 := keep_cell hR.1 g3
                simp [go_sem, h95, l0, l1, d0, d1, d2, d3, g0, g1, g2, g3, hq1, hq2, hq1', hq2', hv]
                exact hK.out _ _ (RM.refl _ _ _ _) rfl
              · intro A wx hR hout hdep hmark K hK
                have h14 : A.tmps[14]?.getD undef = .pointer (some ⟨wr.heap.size, 0, none⟩) := hout 14 (by kernel_rfl)
                have h94 : A.tmps[94]?.getD undef = .bool true := hdep 94 (by kernel_rfl)
                refine if_yes ((wanted_is (j := 2) (b := true) (by kernel_rfl) (by kernel_rfl) h94).trans rfl) ?_
                simp [go_sem, h14, hq1, hq2, hq1', hq2', hv]
                exact hK.out _ _ (RM.refl _ _ _ _) rfl
              · intro A wx hR hout hdep hmark K hK
                have h97 : A.tmps[97]?.getD undef = .pointer (some ⟨wr.heap.size, 0, none⟩) := hdep 97 (by kernel_rfl)
                have h94 : A.tmps[94]?.getD undef = .bool true := hdep 94 (by kernel_rfl)
                refine if_yes ((wanted_is (j := 2) (b := true) (by kernel_rfl) (by kernel_rfl) h94).trans rfl) ?_
                have l0 := keep_cell hR.1 l0
                have l1 := keep_cell hR.1 l1
                have d0 := keep_cell hR.1 d0
                have d1 := keep_cell hR.1 d1
                have d2 := keep_cell hR.1 d2
                have d3 := keep_cell hR.1 d3
                have g0 := keep_cell hR.1 g0
                have g1 := keep_cell hR.1 g1
                have g2 := keep_cell hR.1 g2
                have g3 := keep_cell hR.1 g3
                simp [go_sem, h97, l0, l1, d0, d1, d2, d3, g0, g1, g2, g3, hq1, hq2, hq1', hq2', hv]
                exact hK.out _ _ (RM.refl _ _ _ _) rfl
              · intro A wx hR hout hdep hmark K hK
                have h96 : A.tmps[96]?.getD undef = .agg #[.slice x1 x2 x3, .slice x4 x5 x6, .int .u64 (bs : Int), .slice x7 s8 x9] := hdep 96 (by kernel_rfl)
                have h98 : A.tmps[98]?.getD undef = .int .u32 (p : Int) := hdep 98 (by kernel_rfl)
                have h94 : A.tmps[94]?.getD undef = .bool true := hdep 94 (by kernel_rfl)
                refine if_yes ((wanted_is (j := 2) (b := true) (by kernel_rfl) (by kernel_rfl) h94).trans rfl) ?_
                simp [go_sem, h96, h98, hq1, hq2, hq1', hq2', hv]
                refine (KPx.out p _ (below_tr hb9 (below_tr hbz hR.1))).mono ?_
                rintro e wG ⟨rfl, hbG⟩
                rw [hpx]
                exact hK.out _ _ (RM.of hbG hR.1.size) rfl
              · intro A wx hR hout hdep hmark K hK
                have h94 : A.tmps[94]?.getD undef = .bool true := hdep 94 (by kernel_rfl)
                refine if_yes ((wanted_is (j := 2) (b := true) (by kernel_rfl) (by kernel_rfl) h94).trans rfl) ?_
                have hmm := @run_makeMap Tryz.prog 55 wx
                simp [go_sem, hmm]
                exact hK.out _ _ (RM.of ((Below.refl _ _).alloc (Nat.le_refl _) _) hR.1.size) ⟨_, [], rfl, hR.1.size, map_made prot r wx, .inl rfl⟩
              · intro A wx hR hout hdep hmark K hK
                have h3 : A.tmps[3]?.getD undef = .int .i64 prot := hout 3 (by kernel_rfl)
                have h94 : A.tmps[94]?.getD undef = .bool true := hdep 94 (by kernel_rfl)
                refine if_yes ((wanted_is (j := 2) (b := true) (by kernel_rfl) (by kernel_rfl) h94).trans rfl) ?_
                simp [go_sem, h3, hq1, hq2, hq1', hq2', hv]
                exact hK.out _ _ (RM.refl _ _ _ _) rfl
              · intro A wx hR hout hdep hmark K hK
                have h100 := hdep 100 (by kernel_rfl)
                have h101 : A.tmps[101]?.getD undef = .int .i64 prot := hdep 101 (by kernel_rfl)
                have h94 : A.tmps[94]?.getD undef = .bool true := hdep 94 (by kernel_rfl)
                refine if_yes ((wanted_is (j := 2) (b := true) (by kernel_rfl) (by kernel_rfl) h94).trans rfl) ?_
                obtain ⟨b0, L0, hv100, hBb, hMp, hG⟩ := h100
                obtain ⟨w', hrun, hRM, L', m', g', t', f'⟩ := map_ins (B := W6.heap.size) hMp hG hBb true prot rfl HPW.out
                simp [go_sem, hv100, h101, hrun]
                exact hK.out undef _ hRM ⟨fun _ => ⟨b0, L', (by show A.tmps.getD 100 undef = _; rw [Array.getD_eq_getD_getElem?]; exact hv100), m', g', t' rfl⟩, fun h => by cases h⟩
              · intro A wx hR hout hdep hmark K hK
                have h14 : A.tmps[14]?.getD undef = .pointer (some ⟨wr.heap.size, 0, none⟩) := hout 14 (by kernel_rfl)
                have h94 : A.tmps[94]?.getD undef = .bool true := hdep 94 (by kernel_rfl)
                refine if_yes ((wanted_is (j := 2) (b := true) (by kernel_rfl) (by kernel_rfl) h94).trans rfl) ?_
                simp [go_sem, h14, hq1, hq2, hq1', hq2', hv]
                exact hK.out _ _ (RM.refl _ _ _ _) rfl
              · intro A wx hR hout hdep hmark K hK
                have h102 : A.tmps[102]?.getD undef = .pointer (some ⟨wr.heap.size, 1, none⟩) := hdep 102 (by kernel_rfl)
                have h94 : A.tmps[94]?.getD undef = .bool true := hdep 94 (by kernel_rfl)
                refine if_yes ((wanted_is (j := 2) (b := true) (by kernel_rfl) (by kernel_rfl) h94).trans rfl) ?_
                have l0 := keep_cell hR.1 l0
                have l1 := keep_cell hR.1 l1
                have d0 := keep_cell hR.1 d0
                have d1 := keep_cell hR.1 d1
                have d2 := keep_cell hR.1 d2
                have d3 := keep_cell hR.1 d3
                have g0 := keep_cell hR.1 g0
                have g1 := keep_cell hR.1 g1
                have g2 := keep_cell hR.1 g2
                have g3 := keep_cell hR.1 g3
                simp [go_sem, h102, l0, l1, d0, d1, d2, d3, g0, g1, g2, g3, hq1, hq2, hq1', hq2', hv]
                exact hK.out _ _ (RM.refl _ _ _ _) rfl
              · intro A wx hR hout hdep hmark K hK
                have h100 := hdep 100 (by kernel_rfl)
                have h103 : A.tmps[103]?.getD undef = .int .i64 r := hdep 103 (by kernel_rfl)
                have h94 : A.tmps[94]?.getD undef = .bool true := hdep 94 (by kernel_rfl)
                refine if_yes ((wanted_is (j := 2) (b := true) (by kernel_rfl) (by kernel_rfl) h94).trans rfl) ?_
                obtain ⟨b0, L0, hv100, hBb, hMp, hG⟩ := h100
                obtain ⟨w', hrun, hRM, L', m', g', t', f'⟩ := map_ins (B := W6.heap.size) hMp hG hBb false r rfl hwr
                simp [go_sem, hv100, h103, hrun]
                exact hK.out undef _ hRM ⟨fun h => (by cases h), fun _ => ⟨b0, L', (by show A.tmps.getD 100 undef = _; rw [Array.getD_eq_getD_getElem?]; exact hv100), m', g', f' rfl⟩⟩
              · intro A wx hR hout hdep hmark K hK
                have h100 := hdep 100 (by kernel_rfl)
                have h94 : A.tmps[94]?.getD undef = .bool true := hdep 94 (by kernel_rfl)
                refine if_yes ((wanted_is (j := 2) (b := true) (by kernel_rfl) (by kernel_rfl) h94).trans rfl) ?_
                obtain ⟨b0, L0, hv100, hBb, hMp, hG⟩ := h100
                obtain ⟨b1, L1, e1, m1, g1, t1⟩ := (hmark 10 (by kernel_rfl)).1 rfl
                obtain ⟨b2, L2, e2, m2, g2, t2⟩ := (hmark 13 (by kernel_rfl)).2 rfl
                have e1' : A.tmps.getD 100 undef = .map (some b1) := e1
                have e2' : A.tmps.getD 100 undef = .map (some b2) := e2
                rw [Array.getD_eq_getD_getElem?, hv100] at e1' e2'
                cases e1'
                cases e2'
                obtain rfl := hMp.one m1
                obtain rfl := hMp.one m2
                simp [go_sem, hv100]
                exact hK.out _ _ (RM.refl _ _ _ _) ⟨b0, L0, rfl, hMp, hG, t1, t2⟩
              · intro A wx hR hout hdep hmark K hK
                have h15 : A.tmps[15]?.getD undef = .bool false := hout 15 (by kernel_rfl)
                have h94 : A.tmps[94]?.getD undef = .bool true := hdep 94 (by kernel_rfl)
                refine if_yes ((wanted_is (j := 2) (b := true) (by kernel_rfl) (by kernel_rfl) h94).trans rfl) ?_
                simp [go_sem, h15, hq1, hq2, hq1', hq2', hv]
                exact hK.out _ _ (RM.refl _ _ _ _) rfl
              · intro A wx hR hout hdep hmark K hK
                have h104 := hdep 104 (by kernel_rfl)
                have h105 : A.tmps[105]?.getD undef = .bool false := hdep 105 (by kernel_rfl)
                have h94 : A.tmps[94]?.getD undef = .bool true := hdep 94 (by kernel_rfl)
                refine if_yes ((wanted_is (j := 2) (b := true) (by kernel_rfl) (by kernel_rfl) h94).trans rfl) ?_
                obtain ⟨b0, L0, hv104, m1, g1, t1, f1⟩ := h104
                have hrun := map_look m1 t1 f1 false
                simp only [if_true, Bool.false_eq_true, if_false] at hrun
                simp [go_sem, hv104, h105, hrun]
                exact hK.out _ _ (RM.refl _ _ _ _) rfl
              · intro A wx hR hout hdep hmark K hK
                have h99 : A.tmps[99]?.getD undef = .int .i64 r := hdep 99 (by kernel_rfl)
                have h106 : A.tmps[106]?.getD undef = .int .i64 r := hdep 106 (by kernel_rfl)
                have h94 : A.tmps[94]?.getD undef = .bool true := hdep 94 (by kernel_rfl)
                refine if_yes ((wanted_is (j := 2) (b := true) (by kernel_rfl) (by kernel_rfl) h94).trans rfl) ?_
                simp [go_sem, h99, h106, hq1, hq2, hq1', hq2', hv]
                exact hK.out _ _ (RM.refl _ _ _ _) rfl
              · intro A wx hR hout hdep hmark K hK
                have h94 : A.tmps[94]?.getD undef = .bool true := hdep 94 (by kernel_rfl)
                have h107 : A.tmps[107]?.getD undef = .bool false := hdep 107 (by kernel_rfl)
                refine if_yes (by kernel_rfl) ?_
                simp [go_sem, h94, h107, hq1, hq2, hq1', hq2', hv]
                exact hK.out _ _ (RM.refl _ _ _ _) rfl
              · intro A wx hR hout hdep hmark K hK
                have h108 : A.tmps[108]?.getD undef = .bool false := hdep 108 (by kernel_rfl)
                refine if_yes (by kernel_rfl) ?_
                simp [go_sem, h108, hq1, hq2, hq1', hq2', hv]
                exact hK.out _ _ (RM.refl _ _ _ _) rfl
              · intro A wx hR hout hdep hmark K hK
                have h12 : A.tmps[12]?.getD undef = .int .i64 0 := hout 12 (by kernel_rfl)
                have h109 : A.tmps[109]?.getD undef = .bool false := hdep 109 (by kernel_rfl)
                refine if_yes ((wanted_is (j := 19) (b := false) (by kernel_rfl) (by kernel_rfl) h109).trans rfl) ?_
                simp [go_sem, h12, hq1, hq2, hq1', hq2', hv]
                exact hK.out _ _ (RM.refl _ _ _ _) rfl
              · intro A wx hR hout hdep hmark K hK
                have h110 : A.tmps[110]?.getD undef = .int .i64 0 := hdep 110 (by kernel_rfl)
                have h109 : A.tmps[109]?.getD undef = .bool false := hdep 109 (by kernel_rfl)
                refine if_yes ((wanted_is (j := 19) (b := false) (by kernel_rfl) (by kernel_rfl) h109).trans rfl) ?_
                simp [go_sem, h110, hq1, hq2, hq1', hq2', hv]
                exact hK.out _ _ (RM.refl _ _ _ _) rfl
              · intro A wx hR hout hdep hmark K hK
                have h111 : A.tmps[111]?.getD undef = .bool true := hdep 111 (by kernel_rfl)
                have h109 : A.tmps[109]?.getD undef = .bool false := hdep 109 (by kernel_rfl)
                refine if_yes ((wanted_is (j := 19) (b := false) (by kernel_rfl) (by kernel_rfl) h109).trans rfl) ?_
                simp [go_sem, h111, hq1, hq2, hq1', hq2', hv]
                exact hK.out _ _ (RM.refl _ _ _ _) rfl
              · intro A wx hR hout hdep hmark K hK
                have h11 : A.tmps[11]?.getD undef = .pointer (some ⟨w4.heap.size, 0, none⟩) := hout 11 (by kernel_rfl)
                have h112 : A.tmps[112]?.getD undef = .bool true := hdep 112 (by kernel_rfl)
                refine if_yes ((wanted_is (j := 22) (b := true) (by kernel_rfl) (by kernel_rfl) h112).trans rfl) ?_
                simp [go_sem, h11, hq1, hq2, hq1', hq2', hv]
                exact hK.out _ _ (RM.refl _ _ _ _) rfl
              · intro A wx hR hout hdep hmark K hK
                have h113 : A.tmps[113]?.getD undef = .pointer (some ⟨w4.heap.size, 0, none⟩) := hdep 113 (by kernel_rfl)
                have h112 : A.tmps[112]?.getD undef = .bool true := hdep 112 (by kernel_rfl)
                refine if_yes ((wanted_is (j := 22) (b := true) (by kernel_rfl) (by kernel_rfl) h112).trans rfl) ?_
                have l0 := keep_cell hR.1 l0
                have l1 := keep_cell hR.1 l1
                have d0 := keep_cell hR.1 d0
                have d1 := keep_cell hR.1 d1
                have d2 := keep_cell hR.1 d2
                have d3 := keep_cell hR.1 d3
                have g0 := keep_cell hR.1 g0
                have g1 := keep_cell hR.1 g1
                have g2 := keep_cell hR.1 g2
                have g3 := keep_cell hR.1 g3
                simp [go_sem, h113, l0, l1, d0, d1, d2, d3, g0, g1, g2, g3, hq1, hq2, hq1', hq2', hv]
                exact hK.out _ _ (RM.refl _ _ _ _) rfl
              · intro A wx hR hout hdep hmark K hK
                have h14 : A.tmps[14]?.getD undef = .pointer (some ⟨wr.heap.size, 0, none⟩) := hout 14 (by kernel_rfl)
                have h112 : A.tmps[112]?.getD undef = .bool true := hdep 112 (by kernel_rfl)
                refine if_yes ((wanted_is (j := 22) (b := true) (by kernel_rfl) (by kernel_rfl) h112).trans rfl) ?_
                simp [go_sem, h14, hq1, hq2, hq1', hq2', hv]
                exact hK.out _ _ (RM.refl _ _ _ _) rfl
              · intro A wx hR hout hdep hmark K hK
                have h115 : A.tmps[115]?.getD undef = .pointer (some ⟨wr.heap.size, 0, none⟩) := hdep 115 (by kernel_rfl)
                have h112 : A.tmps[112]?.getD undef = .bool true := hdep 112 (by kernel_rfl)
                refine if_yes ((wanted_is (j := 22) (b := true) (by kernel_rfl) (by kernel_rfl) h112).trans rfl) ?_
                have l0 := keep_cell hR.1 l0
                have l1 := keep_cell hR.1 l1
                have d0 := keep_cell hR.1 d0
                have d1 := keep_cell hR.1 d1
                have d2 := keep_cell hR.1 d2
                have d3 := keep_cell hR.1 d3
                have g0 := keep_cell hR.1 g0
                have g1 := keep_cell hR.1 g1
                have g2 := keep_cell hR.1 g2
                have g3 := keep_cell hR.1 g3
                simp [go_sem, h115, l0, l1, d0, d1, d2, d3, g0, g1, g2, g3, hq1, hq2, hq1', hq2', hv]
                exact hK.out _ _ (RM.refl _ _ _ _) rfl
              · intro A wx hR hout hdep hmark K hK
                have h114 : A.tmps[114]?.getD undef = .agg #[.slice y1 y2 y3, .slice y4 y5 y6, .int .u64 (bs : Int), .slice y7 y8 y9] := hdep 114 (by kernel_rfl)
                have h116 : A.tmps[116]?.getD undef = .int .u32 (p : Int) := hdep 116 (by kernel_rfl)
                have h112 : A.tmps[112]?.getD undef = .bool true := hdep 112 (by kernel_rfl)
                refine if_yes ((wanted_is (j := 22) (b := true) (by kernel_rfl) (by kernel_rfl) h112).trans rfl) ?_
                simp [go_sem, h114, h116, hq1, hq2, hq1', hq2', hv]
                refine (KPy.out p _ (below_tr hb9 (below_tr hbz hR.1))).mono ?_
                rintro e wG ⟨rfl, hbG⟩
                rw [hpy]
                exact hK.out _ _ (RM.of hbG hR.1.size) rfl
              · intro A wx hR hout hdep hmark K hK
                have h117 : A.tmps[117]?.getD undef = .int .i64 vy := hdep 117 (by kernel_rfl)
                have h112 : A.tmps[112]?.getD undef = .bool true := hdep 112 (by kernel_rfl)
                refine if_yes ((wanted_is (j := 22) (b := true) (by kernel_rfl) (by kernel_rfl) h112).trans rfl) ?_
                simp [go_sem, h117, hq1, hq2, hq1', hq2', hv]
                exact hK.out _ _ (RM.refl _ _ _ _) rfl
              · intro A wx hR hout hdep hmark K hK
                have h15 : A.tmps[15]?.getD undef = .bool false := hout 15 (by kernel_rfl)
                have h112 : A.tmps[112]?.getD undef = .bool true := hdep 112 (by kernel_rfl)
                refine if_yes ((wanted_is (j := 22) (b := true) (by kernel_rfl) (by kernel_rfl) h112).trans rfl) ?_
                simp [go_sem, h15, hq1, hq2, hq1', hq2', hv]
                exact hK.out _ _ (RM.refl _ _ _ _) rfl
              · intro A wx hR hout hdep hmark K hK
                have h118 : A.tmps[118]?.getD undef = .bool true := hdep 118 (by kernel_rfl)
                have h119 : A.tmps[119]?.getD undef = .bool false := hdep 119 (by kernel_rfl)
                have h112 : A.tmps[112]?.getD undef = .bool true := hdep 112 (by kernel_rfl)
                refine if_yes ((wanted_is (j := 22) (b := true) (by kernel_rfl) (by kernel_rfl) h112).trans rfl) ?_
                simp [go_sem, h118, h119, hq1, hq2, hq1', hq2', hv]
                exact hK.out _ _ (RM.refl _ _ _ _) rfl
              · intro A wx hR hout hdep hmark K hK
                have h112 : A.tmps[112]?.getD undef = .bool true := hdep 112 (by kernel_rfl)
                have h120 : A.tmps[120]?.getD undef = .bool false := hdep 120 (by kernel_rfl)
                have h109 : A.tmps[109]?.getD undef = .bool false := hdep 109 (by kernel_rfl)
                refine if_yes ((wanted_is (j := 19) (b := false) (by kernel_rfl) (by kernel_rfl) h109).trans rfl) ?_
                simp [go_sem, h112, h120, hq1, hq2, hq1', hq2', hv]
                exact hK.out _ _ (RM.refl _ _ _ _) rfl
              · intro A wx hR hout hdep hmark K hK
                have h109 : A.tmps[109]?.getD undef = .bool false := hdep 109 (by kernel_rfl)
                have h121 : A.tmps[121]?.getD undef = .bool false := hdep 121 (by kernel_rfl)
                refine if_yes (by kernel_rfl) ?_
                simp [go_sem, h109, h121, hq1, hq2, hq1', hq2', hv]
                exact hK.out _ _ (RM.refl _ _ _ _) rfl
              simp only [putSl, Act.put, List.setIfInBounds_toArray, List.set_cons_zero, List.set_cons_succ]
              have hz : f 122 = .bool false := hf 122 (by kernel_rfl)
              rw [hz]
              have hbz := below_tr hbz hR.1
              clear hf hz
              go_wp2
              go_roundw
              case rel => exact ⟨k + 1, by omega, by go_num, hbz⟩
              case measure => simp [intOf]; omega
        · obtain rfl : k = s8 := by omega
          have HB : Hid (Below w.heap.size w wr) := below_tr HB.out hbr
          clear hbr HX BSr BXr BYr
          go_wp2_with fail
          refine (awake10 wr).mono ?_
          rintro e wz ⟨rfl, hbz⟩
          have HBz : Hid (Below w.heap.size w wz) := below_tr HB.out hbz
          go_wp2
          go_ret
          exact ⟨rfl, HBz.out⟩
    · skip
      have hq1 : True := trivial
      have hq1' : True := trivial
      subst h1
      have HPX0 : Hid (∀ x ∈ ps, protN ps1 x.1 = if inR a n x.1 = true then prot else x.2) := HPX.out rfl
      have hq2 : (err2 != 0) = true := by simp [h2]
      have hq2' : (err2 == 0) = false := by simp [h2]
      go_wp2_with fail
      refine (K19y.out h2 _ hb9).mono ?_
      rintro e w6 ⟨rfl, hbq⟩
      have BS := BS.keep hbq
      have BX := BX.keep hbq
      have BY := BY.keep hbq
      have HB : Hid (Below w.heap.size w w6) := below_tr HB.out hbq
      have HSL : Hid (SlG w6 (.slice s1 s2 s3) (.slice s4 s5 s6) (.slice s7 s8 s9) ms cs ps) := HSL.out.keep hbq
      have hb9 := below_tr hb9 hbq
      obtain ⟨c0, c1, c2, c3, c4, c5⟩ := BS.cells
      obtain ⟨d0, d1, d2, d3, d4, d5⟩ := BX.cells
      obtain ⟨g0, g1, g2, g3, g4, g5⟩ := BY.cells
      clear hbq
      clear hXb hX4 i0 i1 i2 i3 i4 i5 j0 j1 j2 j3 j4 j5
      obtain ⟨W5, rfl⟩ : ∃ z, z = w6 := ⟨_, rfl⟩
      have HX : Hid (∀ i (h : i < ps.length), ∃ b o, s7 = some ⟨b, o, none⟩ ∧ W5.cell? ⟨b, o + i * 2, none⟩ = some (.int .u32 (ps[i].1 : Int)) ∧ W5.cell? ⟨b, o + i * 2 + 1, none⟩ = some (.int .i64 ps[i].2)) := by
        obtain ⟨ao, cap, e, _, _, _, g⟩ := HSL.out.2.2
        cases e
        exact g
      go_wp2
      go_loopw [73] (fun i wr => ∃ k : Nat, k ≤ s8 ∧ i = .int .i64 (k : Int) ∧ Below W5.heap.size W5 wr) (fun i _ => s8 - (intOf i).toNat)
      case atStart => exact ⟨0, Nat.zero_le _, rfl, Below.refl _ _⟩
      case round =>
        obtain ⟨k, hk, rfl, hbr⟩ := hrel
        have BSr := BS.keep hbr
        have BXr := BX.keep hbr
        have BYr := BY.keep hbr
        obtain ⟨c0, c1, c2, c3, c4, c5⟩ := BSr.cells
        obtain ⟨d0, d1, d2, d3, d4, d5⟩ := BXr.cells
        obtain ⟨g0, g1, g2, g3, g4, g5⟩ := BYr.cells
        by_cases hkl : k < s8
        · obtain ⟨b, o, rfl, q0, q1⟩ := HX.out k (by rw [← HS8.out]; exact hkl)
          have e0' := keep_cell hbr q0
          have e1' := keep_cell hbr q1
          have hmem := List.getElem_mem (by rw [← HS8.out]; exact hkl : k < ps.length)
          have hr0 := (HQ.out.1.pg _ hmem).2.1
          have hp0 := (HQ.out.1.pg _ hmem).1
          have hr7 := (HQ.out.1.pg _ hmem).2.2.1
          have hpx := HPX0.out _ hmem
          generalize ps[k].1 = p at e0' hp0 hpx 
          generalize ps[k].2 = r at e1' hr0 hr7 hpx 
          have hwr : (Lit.int .i64 r).wf = true := by simp [Lit.wf, IntKind.min, IntKind.max, IntKind.signed, IntKind.bits]; omega
          clear q0 q1 hmem
          obtain ⟨W5', hW5', hb5, hsz5, l0, l1, _, _⟩ := box2 wr (.int .u32 (p : Int)) (.int .i64 r) 53
          have d0 := keep_cell hb5 d0
          have d1 := keep_cell hb5 d1
          have d2 := keep_cell hb5 d2
          have d3 := keep_cell hb5 d3
          have g0 := keep_cell hb5 g0
          have g1 := keep_cell hb5 g1
          have g2 := keep_cell hb5 g2
          have g3 := keep_cell hb5 g3
          clear BSr BXr BYr c0 c1 c2 c3 c4 c5 d4 d5 g4 g5
          by_cases hpf : p < fp
          · have hd1 : decide ((fp : Int) ≤ (p : Int)) = false := by simp; omega
            have hd2 : (fp ≤ p) = False := by simp; omega
            have t1 : True := trivial
            have t2 : True := trivial
            have hi : inR a n p = false := by unfold inR; rw [← HFP.out]; simp; omega
            rw [hi, if_neg (by decide)] at hpx
            have hv : True := trivial
            clear hi
            clear hpf
            go_wp2
            refine wp_region_slots (R := Ext) [⟨77, fun v _ => v = .pointer (some ⟨wr.heap.size, 0, none⟩), fun _ _ _ _ h => h⟩, ⟨78, fun v _ => v = .int .u32 (p : Int), fun _ _ _ _ h => h⟩, ⟨79, fun v _ => v = .int .u32 (a : Int), fun _ _ _ _ h => h⟩, ⟨80, fun v _ => v = .int .u32 (fp : Int), fun _ _ _ _ h => h⟩, ⟨81, fun v _ => v = .bool false, fun _ _ _ _ h => h⟩, ⟨82, fun v _ => v = .bool false, fun _ _ _ _ h => h⟩, ⟨91, fun v _ => v = .bool false, fun _ _ _ _ h => h⟩, ⟨15, fun v _ => v = .bool false, fun _ _ _ _ h => h⟩] _ (by kernel_rfl) rfl (by kernel_rfl) (Below.drew (Below.refl _ _)) (fun _ _ _ h1 h2 => below_tr h1 h2) (fun QQ => ⟨?_, ?_, ?_, ?_, ?_, ?_, ?_, ?_, ?_, ?_, ?_, ?_, ?_, ?_, ?_, ?_, trivial⟩) (fun f wy hR hf => ?_)
            · intro A wx hR hout hdep K hK
              have h14 : A.tmps[14]?.getD undef = .pointer (some ⟨wr.heap.size, 0, none⟩) := hout 14 (by kernel_rfl)
              refine if_yes (by kernel_rfl) ?_
              simp [go_sem, h14, hd1, hd2, t1, t2, z1, z2, z2', z3]
              exact hK.out _ _ (Below.refl _ _) rfl
            · intro A wx hR hout hdep K hK
              have h77 : A.tmps[77]?.getD undef = .pointer (some ⟨wr.heap.size, 0, none⟩) := hdep 77 (by kernel_rfl)
              refine if_yes (by kernel_rfl) ?_
              have l0 := keep_cell hR l0
              have l1 := keep_cell hR l1
              simp [go_sem, h77, l0, l1, hd1, hd2, t1, t2, z1, z2, z2', z3]
              exact hK.out _ _ (Below.refl _ _) rfl
            · intro A wx hR hout hdep K hK
              have h1 : A.tmps[1]?.getD undef = .int .u32 (a : Int) := hout 1 (by kernel_rfl)
              refine if_yes (by kernel_rfl) ?_
              simp [go_sem, h1, hd1, hd2, t1, t2, z1, z2, z2', z3]
              exact hK.out _ _ (Below.refl _ _) rfl
            · intro A wx hR hout hdep K hK
              have h79 : A.tmps[79]?.getD undef = .int .u32 (a : Int) := hdep 79 (by kernel_rfl)
              refine if_yes (by kernel_rfl) ?_
              simp [go_sem, h79, hd1, hd2, t1, t2, z1, z2, z2', z3]
              exact hK.out _ _ (Below.refl _ _) rfl
            · intro A wx hR hout hdep K hK
              have h78 : A.tmps[78]?.getD undef = .int .u32 (p : Int) := hdep 78 (by kernel_rfl)
              have h80 : A.tmps[80]?.getD undef = .int .u32 (fp : Int) := hdep 80 (by kernel_rfl)
              refine if_yes (by kernel_rfl) ?_
              simp [go_sem, h78, h80, hd1, hd2, t1, t2, z1, z2, z2', z3]
              exact hK.out _ _ (Below.refl _ _) rfl
            · intro A wx hR hout hdep K hK
              have h81 : A.tmps[81]?.getD undef = .bool false := hdep 81 (by kernel_rfl)
              refine if_yes (by kernel_rfl) ?_
              simp [go_sem, h81, hd1, hd2, t1, t2, z1, z2, z2', z3]
              exact hK.out _ _ (Below.refl _ _) rfl
            · intro A wx hR hout hdep K hK
              have h14 : A.tmps[14]?.getD undef = .pointer (some ⟨wr.heap.size, 0, none⟩) := hout 14 (by kernel_rfl)
              have h82 : A.tmps[82]?.getD undef = .bool false := hdep 82 (by kernel_rfl)
              refine if_not (by rw [wanted_is (j := 5) (b := true) (by kernel_rfl) (by kernel_rfl) h82]; decide) ?_
              exact hK.out _ _ (Below.refl _ _) trivial
            · intro A wx hR hout hdep K hK
              have h82 : A.tmps[82]?.getD undef = .bool false := hdep 82 (by kernel_rfl)
              refine if_not (by rw [wanted_is (j := 5) (b := true) (by kernel_rfl) (by kernel_rfl) h82]; decide) ?_
              exact hK.out _ _ (Below.refl _ _) trivial
            · intro A wx hR hout hdep K hK
              have h1 : A.tmps[1]?.getD undef = .int .u32 (a : Int) := hout 1 (by kernel_rfl)
              have h82 : A.tmps[82]?.getD undef = .bool false := hdep 82 (by kernel_rfl)
              refine if_not (by rw [wanted_is (j := 5) (b := true) (by kernel_rfl) (by kernel_rfl) h82]; decide) ?_
              exact hK.out _ _ (Below.refl _ _) trivial
            · intro A wx hR hout hdep K hK
              have h82 : A.tmps[82]?.getD undef = .bool false := hdep 82 (by kernel_rfl)
              refine if_not (by rw [wanted_is (j := 5) (b := true) (by kernel_rfl) (by kernel_rfl) h82]; decide) ?_
              exact hK.out _ _ (Below.refl _ _) trivial
            · intro A wx hR hout hdep K hK
              have h82 : A.tmps[82]?.getD undef = .bool false := hdep 82 (by kernel_rfl)
              refine if_not (by rw [wanted_is (j := 5) (b := true) (by kernel_rfl) (by kernel_rfl) h82]; decide) ?_
              exact hK.out _ _ (Below.refl _ _) trivial
            · intro A wx hR hout hdep K hK
              have h2 : A.tmps[2]?.getD undef = .int .u32 (n : Int) := hout 2 (by kernel_rfl)
              have h82 : A.tmps[82]?.getD undef = .bool false := hdep 82 (by kernel_rfl)
              refine if_not (by rw [wanted_is (j := 5) (b := true) (by kernel_rfl) (by kernel_rfl) h82]; decide) ?_
              exact hK.out _ _ (Below.refl _ _) trivial
            · intro A wx hR hout hdep K hK
              have h82 : A.tmps[82]?.getD undef = .bool false := hdep 82 (by kernel_rfl)
              refine if_not (by rw [wanted_is (j := 5) (b := true) (by kernel_rfl) (by kernel_rfl) h82]; decide) ?_
              exact hK.out _ _ (Below.refl _ _) trivial
            · intro A wx hR hout hdep K hK
              have h82 : A.tmps[82]?.getD undef = .bool false := hdep 82 (by kernel_rfl)
              refine if_not (by rw [wanted_is (j := 5) (b := true) (by kernel_rfl) (by kernel_rfl) h82]; decide) ?_
              exact hK.out _ _ (Below.refl _ _) trivial
            · intro A wx hR hout hdep K hK
              have h82 : A.tmps[82]?.getD undef = .bool false := hdep 82 (by kernel_rfl)
              refine if_yes (by kernel_rfl) ?_
              simp [go_sem, h82, hd1, hd2, t1, t2, z1, z2, z2', z3]
              exact hK.out _ _ (Below.refl _ _) rfl
            · intro A wx hR hout hdep K hK
              have h91 : A.tmps[91]?.getD undef = .bool false := hdep 91 (by kernel_rfl)
              refine if_yes (by kernel_rfl) ?_
              simp [go_sem, h91, hd1, hd2, t1, t2, z1, z2, z2', z3]
              exact hK.out _ _ (Below.refl _ _) rfl
            simp only [putSl, Act.put, List.setIfInBounds_toArray, List.set_cons_zero, List.set_cons_succ]
            have hz : f 15 = .bool false := hf 15 (by kernel_rfl)
            rw [hz]
            have hbz := below_tr (below_tr hbr hb5) hR
            have l0 := keep_cell hR l0
            have l1 := keep_cell hR l1
            have d0 := keep_cell hR d0
            have d1 := keep_cell hR d1
            have d2 := keep_cell hR d2
            have d3 := keep_cell hR d3
            have g0 := keep_cell hR g0
            have g1 := keep_cell hR g1
            have g2 := keep_cell hR g2
            have g3 := keep_cell hR g3
            clear hf hz hR
            obtain ⟨W6, rfl⟩ : ∃ z, z = wy := ⟨_, rfl⟩
            go_wp2
            refine wp_region_marks (R := RM prot r W6.heap.size) [⟨92, fun v _ => v = .int .i64 0, fun _ _ _ _ h => h⟩, ⟨93, fun v _ => v = .bool true, fun _ _ _ _ h => h⟩, ⟨94, fun v _ => v = .bool true, fun _ _ _ _ h => h⟩, ⟨95, fun v _ => v = .pointer (some ⟨w3.heap.size, 0, none⟩), fun _ _ _ _ h => h⟩, ⟨96, fun v _ => v = .agg #[.slice x1 x2 x3, .slice x4 x5 x6, .int .u64 (bs : Int), .slice x7 s8 x9], fun _ _ _ _ h => h⟩, ⟨97, fun v _ => v = .pointer (some ⟨wr.heap.size, 0, none⟩), fun _ _ _ _ h => h⟩, ⟨98, fun v _ => v = .int .u32 (p : Int), fun _ _ _ _ h => h⟩, ⟨99, fun v _ => v = .int .i64 r, fun _ _ _ _ h => h⟩, ⟨100, fun v w => ∃ b L, v = .map (some b) ∧ W6.heap.size ≤ b ∧ MapAt w b L ∧ GoodL prot r L, fun v w w' hR ⟨b, L, e, hB, m, g⟩ => (hR.2 b L m g).elim fun L' h => ⟨b, L', e, hB, h.1, h.2.1⟩⟩, ⟨101, fun v _ => v = .int .i64 prot, fun _ _ _ _ h => h⟩, ⟨102, fun v _ => v = .pointer (some ⟨wr.heap.size, 1, none⟩), fun _ _ _ _ h => h⟩, ⟨103, fun v _ => v = .int .i64 r, fun _ _ _ _ h => h⟩, ⟨104, fun v w => ∃ b L, v = .map (some b) ∧ MapAt w b L ∧ GoodL prot r L ∧ HasT prot r L ∧ HasF prot r L, fun v w w' hR ⟨b, L, e, m, g, t, f⟩ => (hR.2 b L m g).elim fun L' h => ⟨b, L', e, h.1, h.2.1, h.2.2.1 t, h.2.2.2 f⟩⟩, ⟨105, fun v _ => v = .bool false, fun _ _ _ _ h => h⟩, ⟨106, fun v _ => v = .int .i64 r, fun _ _ _ _ h => h⟩, ⟨107, fun v _ => v = .bool false, fun _ _ _ _ h => h⟩, ⟨108, fun v _ => v = .bool false, fun _ _ _ _ h => h⟩, ⟨109, fun v _ => v = .bool false, fun _ _ _ _ h => h⟩, ⟨110, fun v _ => v = .int .i64 err2, fun _ _ _ _ h => h⟩, ⟨111, fun v _ => v = .bool false, fun _ _ _ _ h => h⟩, ⟨112, fun v _ => v = .bool false, fun _ _ _ _ h => h⟩, ⟨121, fun v _ => v = .bool false, fun _ _ _ _ h => h⟩, ⟨122, fun v _ => v = .bool false, fun _ _ _ _ h => h⟩] (MarkM prot r) depM _ (by kernel_rfl) rfl (by kernel_rfl) (by kernel_rfl) (RM.drew _ _ _ _) (fun _ _ _ h1 h2 => h1.trans h2) (fun i f f' w w' => MarkM.keep i f f' w w') (fun QQ => ⟨?_, ?_, ?_, ?_, ?_, ?_, ?_, ?_, ?_, ?_, ?_, ?_, ?_, ?_, ?_, ?_, ?_, ?_, ?_, ?_, ?_, ?_, ?_, ?_, ?_, ?_, ?_, ?_, ?_, ?_, ?_, ?_, ?_, trivial⟩) (fun f wy hR hf => ?_)
            · intro A wx hR hout hdep hmark K hK
              have h10 : A.tmps[10]?.getD undef = .int .i64 0 := hout 10 (by kernel_rfl)
              refine if_yes (by kernel_rfl) ?_
              simp [go_sem, h10, hq1, hq2, hq1', hq2', hv]
              exact hK.out _ _ (RM.refl _ _ _ _) rfl
            · intro A wx hR hout hdep hmark K hK
              have h92 : A.tmps[92]?.getD undef = .int .i64 0 := hdep 92 (by kernel_rfl)
              refine if_yes (by kernel_rfl) ?_
              simp [go_sem, h92, hq1, hq2, hq1', hq2', hv]
              exact hK.out _ _ (RM.refl _ _ _ _) rfl
            · intro A wx hR hout hdep hmark K hK
              have h93 : A.tmps[93]?.getD undef = .bool true := hdep 93 (by kernel_rfl)
              refine if_yes (by kernel_rfl) ?_
              simp [go_sem, h93, hq1, hq2, hq1', hq2', hv]
              exact hK.out _ _ (RM.refl _ _ _ _) rfl
            · intro A wx hR hout hdep hmark K hK
              have h9 : A.tmps[9]?.getD undef = .pointer (some ⟨w3.heap.size, 0, none⟩) := hout 9 (by kernel_rfl)
              have h94 : A.tmps[94]?.getD undef = .bool true := hdep 94 (by kernel_rfl)
              refine if_yes ((wanted_is (j := 2) (b := true) (by kernel_rfl) (by kernel_rfl) h94).trans rfl) ?_
              simp [go_sem, h9, hq1, hq2, hq1', hq2', hv]
              exact hK.out _ _ (RM.refl _ _ _ _) rfl
            · intro A wx hR hout hdep hmark K hK
              have h95 : A.tmps[95]?.getD undef = .pointer (some ⟨w3.heap.size, 0, none⟩) := hdep 95 (by kernel_rfl)
              have h94 : A.tmps[94]?.getD undef = .bool true := hdep 94 (by kernel_rfl)
              refine if_yes ((wanted_is (j := 2) (b := true) (by kernel_rfl) (by kernel_rfl) h94).trans rfl) ?_
              have l0 := keep_cell hR.1 l0
              have l1 := keep_cell hR.1 l1
              have d0 := keep_cell hR.1 d0
              have d1 := keep_cell hR.1 d1
              have d2 := keep_cell hR.1 d2
              have d3 := keep_cell hR.1 d3
              have g0 := keep_cell hR.1 g0
              have g1 := keep_cell hR.1 g1
              have g2 := keep_cell hR.1 g2
              have g3 := keep_cell hR.1 g3
              simp [go_sem, h95, l0, l1, d0, d1, d2, d3, g0, g1, g2, g3, hq1, hq2, hq1', hq2', hv]
              exact hK.out _ _ (RM.refl _ _ _ _) rfl
            · intro A wx hR hout hdep hmark K hK
              have h14 : A.tmps[14]?.getD undef = .pointer (some ⟨wr.heap.size, 0, none⟩) := hout 14 (by kernel_rfl)
              have h94 : A.tmps[94]?.getD undef = .bool true := hdep 94 (by kernel_rfl)
              refine if_yes ((wanted_is (j := 2) (b := true) (by kernel_rfl) (by kernel_rfl) h94).trans rfl) ?_
              simp [go_sem, h14, hq1, hq2, hq1', hq2', hv]
              exact hK.out _ _ (RM.refl _ _ _ _) rfl
            · intro A wx hR hout hdep hmark K hK
              have h97 : A.tmps[97]?.getD undef = .pointer (some ⟨wr.heap.size, 0, none⟩) := hdep 97 (by kernel_rfl)
              have h94 : A.tmps[94]?.getD undef = .bool true := hdep 94 (by kernel_rfl)
              refine if_yes ((wanted_is (j := 2) (b := true) (by kernel_rfl) (by kernel_rfl) h94).trans rfl) ?_
              have l0 := keep_cell hR.1 l0
              have l1 := keep_cell hR.1 l1
              have d0 := keep_cell hR.1 d0
              have d1 := keep_cell hR.1 d1
              have d2 := keep_cell hR.1 d2
              have d3 := keep_cell hR.1 d3
              have g0 := keep_cell hR.1 g0
              have g1 := keep_cell hR.1 g1
              have g2 := keep_cell hR.1 g2
              have g3 := keep_cell hR.1 g3
              simp [go_sem, h97, l0, l1, d0, d1, d2, d3, g0, g1, g2, g3, hq1, hq2, hq1', hq2', hv]
              exact hK.out _ _ (RM.refl _ _ _ _) rfl
            · intro A wx hR hout hdep hmark K hK
              have h96 : A.tmps[96]?.getD undef = .agg #[.slice x1 x2 x3, .slice x4 x5 x6, .int .u64 (bs : Int), .slice x7 s8 x9] := hdep 96 (by kernel_rfl)
              have h98 : A.tmps[98]?.getD undef = .int .u32 (p : Int) := hdep 98 (by kernel_rfl)
              have h94 : A.tmps[94]?.getD undef = .bool true := hdep 94 (by kernel_rfl)
              refine if_yes ((wanted_is (j := 2) (b := true) (by kernel_rfl) (by kernel_rfl) h94).trans rfl) ?_
              simp [go_sem, h96, h98, hq1, hq2, hq1', hq2', hv]
              refine (KPx.out p _ (below_tr hb9 (below_tr hbz hR.1))).mono ?_
              rintro e wG ⟨rfl, hbG⟩
              rw [hpx]
              exact hK.out _ _ (RM.of hbG hR.1.size) rfl
            · intro A wx hR hout hdep hmark K hK
              have h94 : A.tmps[94]?.getD undef = .bool true := hdep 94 (by kernel_rfl)
              refine if_yes ((wanted_is (j := 2) (b := true) (by kernel_rfl) (by kernel_rfl) h94).trans rfl) ?_
              have hmm := @run_makeMap Tryz.prog 55 wx
              simp [go_sem, hmm]
              exact hK.out _ _ (RM.of ((Below.refl _ _).alloc (Nat.le_refl _) _) hR.1.size) ⟨_, [], rfl, hR.1.size, map_made prot r wx, .inl rfl⟩
            · intro A wx hR hout hdep hmark K hK
              have h3 : A.tmps[3]?.getD undef = .int .i64 prot := hout 3 (by kernel_rfl)
              have h94 : A.tmps[94]?.getD undef = .bool true := hdep 94 (by kernel_rfl)
              refine if_yes ((wanted_is (j := 2) (b := true) (by kernel_rfl) (by kernel_rfl) h94).trans rfl) ?_
              simp [go_sem, h3, hq1, hq2, hq1', hq2', hv]
              exact hK.out _ _ (RM.refl _ _ _ _) rfl
            · intro A wx hR hout hdep hmark K hK
              have h100 := hdep 100 (by kernel_rfl)
              have h101 : A.tmps[101]?.getD undef = .int .i64 prot := hdep 101 (by kernel_rfl)
              have h94 : A.tmps[94]?.getD undef = .bool true := hdep 94 (by kernel_rfl)
              refine if_yes ((wanted_is (j := 2) (b := true) (by kernel_rfl) (by kernel_rfl) h94).trans rfl) ?_
              obtain ⟨b0, L0, hv100, hBb, hMp, hG⟩ := h100
              obtain ⟨w', hrun, hRM, L', m', g', t', f'⟩ := map_ins (B := W6.heap.size) hMp hG hBb true prot rfl HPW.out
              simp [go_sem, hv100, h101, hrun]
              exact hK.out undef _ hRM ⟨fun _ => ⟨b0, L', (by show A.tmps.getD 100 undef = _; rw [Array.getD_eq_getD_getElem?]; exact hv100), m', g', t' rfl⟩, fun h => by cases h⟩
            · intro A wx hR hout hdep hmark K hK
              have h14 : A.tmps[14]?.getD undef = .pointer (some ⟨wr.heap.size, 0, none⟩) := hout 14 (by kernel_rfl)
              have h94 : A.tmps[94]?.getD undef = .bool true := hdep 94 (by kernel_rfl)
              refine if_yes ((wanted_is (j := 2) (b := true) (by kernel_rfl) (by kernel_rfl) h94).trans rfl) ?_
              simp [go_sem, h14, hq1, hq2, hq1', hq2', hv]
              exact hK.out _ _ (RM.refl _ _ _ _) rfl
            · intro A wx hR hout hdep hmark K hK
              have h102 : A.tmps[102]?.getD undef = .pointer (some ⟨wr.heap.size, 1, none⟩) := hdep 102 (by kernel_rfl)
              have h94 : A.tmps[94]?.getD undef = .bool true := hdep 94 (by kernel_rfl)
              refine if_yes ((wanted_is (j := 2) (b := true) (by kernel_rfl) (by kernel_rfl) h94).trans rfl) ?_
              have l0 := keep_cell hR.1 l0
              have l1 := keep_cell hR.1 l1
              have d0 := keep_cell hR.1 d0
              have d1 := keep_cell hR.1 d1
              have d2 := keep_cell hR.1 d2
              have d3 := keep_cell hR.1 d3
              have g0 := keep_cell hR.1 g0
              have g1 := keep_cell hR.1 g1
              have g2 := keep_cell hR.1 g2
              have g3 := keep_cell hR.1 g3
              simp [go_sem, h102, l0, l1, d0, d1, d2, d3, g0, g1, g2, g3, hq1, hq2, hq1', hq2', hv]
              exact hK.out _ _ (RM.refl _ _ _ _) rfl
            · intro A wx hR hout hdep hmark K hK
              have h100 := hdep 100 (by kernel_rfl)
              have h103 : A.tmps[103]?.getD undef = .int .i64 r := hdep 103 (by kernel_rfl)
              have h94 : A.tmps[94]?.getD undef = .bool true := hdep 94 (by kernel_rfl)
              refine if_yes ((wanted_is (j := 2) (b := true) (by kernel_rfl) (by kernel_rfl) h94).trans rfl) ?_
              obtain ⟨b0, L0, hv100, hBb, hMp, hG⟩ := h100
              obtain ⟨w', hrun, hRM, L', m', g', t', f'⟩ := map_ins (B := W6.heap.size) hMp hG hBb false r rfl hwr
              simp [go_sem, hv100, h103, hrun]
              exact hK.out undef _ hRM ⟨fun h => (by cases h), fun _ => ⟨b0, L', (by show A.tmps.getD 100 undef = _; rw [Array.getD_eq_getD_getElem?]; exact hv100), m', g', f' rfl⟩⟩
            · intro A wx hR hout hdep hmark K hK
              have h100 := hdep 100 (by kernel_rfl)
              have h94 : A.tmps[94]?.getD undef = .bool true := hdep 94 (by kernel_rfl)
              refine if_yes ((wanted_is (j := 2) (b := true) (by kernel_rfl) (by kernel_rfl) h94).trans rfl) ?_
              obtain ⟨b0, L0, hv100, hBb, hMp, hG⟩ := h100
              obtain ⟨b1, L1, e1, m1, g1, t1⟩ := (hmark 10 (by kernel_rfl)).1 rfl
              obtain ⟨b2, L2, e2, m2, g2, t2⟩ := (hmark 13 (by kernel_rfl)).2 rfl
              have e1' : A.tmps.getD 100 undef = .map (some b1) := e1
              have e2' : A.tmps.getD 100 undef = .map (some b2) := e2
              rw [Array.getD_eq_getD_getElem?, hv100] at e1' e2'
              cases e1'
              cases e2'
              obtain rfl := hMp.one m1
              obtain rfl := hMp.one m2
              simp [go_sem, hv100]
              exact hK.out _ _ (RM.refl _ _ _ _) ⟨b0, L0, rfl, hMp, hG, t1, t2⟩
            · intro A wx hR hout hdep hmark K hK
              have h15 : A.tmps[15]?.getD undef = .bool false := hout 15 (by kernel_rfl)
              have h94 : A.tmps[94]?.getD undef = .bool true := hdep 94 (by kernel_rfl)
              refine if_yes ((wanted_is (j := 2) (b := true) (by kernel_rfl) (by kernel_rfl) h94).trans rfl) ?_
              simp [go_sem, h15, hq1, hq2, hq1', hq2', hv]
              exact hK.out _ _ (RM.refl _ _ _ _) rfl
            · intro A wx hR hout hdep hmark K hK
              have h104 := hdep 104 (by kernel_rfl)
              have h105 : A.tmps[105]?.getD undef = .bool false := hdep 105 (by kernel_rfl)
              have h94 : A.tmps[94]?.getD undef = .bool true := hdep 94 (by kernel_rfl)
              refine if_yes ((wanted_is (j := 2) (b := true) (by kernel_rfl) (by kernel_rfl) h94).trans rfl) ?_
              obtain ⟨b0, L0, hv104, m1, g1, t1, f1⟩ := h104
              have hrun := map_look m1 t1 f1 false
              simp only [if_true, Bool.false_eq_true, if_false] at hrun
              simp [go_sem, hv104, h105, hrun]
              exact hK.out _ _ (RM.refl _ _ _ _) rfl
            · intro A wx hR hout hdep hmark K hK
              have h99 : A.tmps[99]?.getD undef = .int .i64 r := hdep 99 (by kernel_rfl)
              have h106 : A.tmps[106]?.getD undef = .int .i64 r := hdep 106 (by kernel_rfl)
              have h94 : A.tmps[94]?.getD undef = .bool true := hdep 94 (by kernel_rfl)
              refine if_yes ((wanted_is (j := 2) (b := true) (by kernel_rfl) (by kernel_rfl) h94).trans rfl) ?_
              simp [go_sem, h99, h106, hq1, hq2, hq1', hq2', hv]
              exact hK.out _ _ (RM.refl _ _ _ _) rfl
            · intro A wx hR hout hdep hmark K hK
              have h94 : A.tmps[94]?.getD undef = .bool true := hdep 94 (by kernel_rfl)
              have h107 : A.tmps[107]?.getD undef = .bool false := hdep 107 (by kernel_rfl)
              refine if_yes (by kernel_rfl) ?_
              simp [go_sem, h94, h107, hq1, hq2, hq1', hq2', hv]
              exact hK.out _ _ (RM.refl _ _ _ _) rfl
            · intro A wx hR hout hdep hmark K hK
              have h108 : A.tmps[108]?.getD undef = .bool false := hdep 108 (by kernel_rfl)
              refine if_yes (by kernel_rfl) ?_
              simp [go_sem, h108, hq1, hq2, hq1', hq2', hv]
              exact hK.out _ _ (RM.refl _ _ _ _) rfl
            · intro A wx hR hout hdep hmark K hK
              have h12 : A.tmps[12]?.getD undef = .int .i64 err2 := hout 12 (by kernel_rfl)
              have h109 : A.tmps[109]?.getD undef = .bool false := hdep 109 (by kernel_rfl)
              refine if_yes ((wanted_is (j := 19) (b := false) (by kernel_rfl) (by kernel_rfl) h109).trans rfl) ?_
              simp [go_sem, h12, hq1, hq2, hq1', hq2', hv]
              exact hK.out _ _ (RM.refl _ _ _ _) rfl
            · intro A wx hR hout hdep hmark K hK
              have h110 : A.tmps[110]?.getD undef = .int .i64 err2 := hdep 110 (by kernel_rfl)
              have h109 : A.tmps[109]?.getD undef = .bool false := hdep 109 (by kernel_rfl)
              refine if_yes ((wanted_is (j := 19) (b := false) (by kernel_rfl) (by kernel_rfl) h109).trans rfl) ?_
              simp [go_sem, h110, hq1, hq2, hq1', hq2', hv]
              exact hK.out _ _ (RM.refl _ _ _ _) rfl
            · intro A wx hR hout hdep hmark K hK
              have h111 : A.tmps[111]?.getD undef = .bool false := hdep 111 (by kernel_rfl)
              have h109 : A.tmps[109]?.getD undef = .bool false := hdep 109 (by kernel_rfl)
              refine if_yes ((wanted_is (j := 19) (b := false) (by kernel_rfl) (by kernel_rfl) h109).trans rfl) ?_
              simp [go_sem, h111, hq1, hq2, hq1', hq2', hv]
              exact hK.out _ _ (RM.refl _ _ _ _) rfl
            · intro A wx hR hout hdep hmark K hK
              have h11 : A.tmps[11]?.getD undef = .pointer (some ⟨w4.heap.size, 0, none⟩) := hout 11 (by kernel_rfl)
              have h112 : A.tmps[112]?.getD undef = .bool false := hdep 112 (by kernel_rfl)
              refine if_not (by rw [wanted_is (j := 22) (b := true) (by kernel_rfl) (by kernel_rfl) h112]; decide) ?_
              exact hK.out _ _ (RM.refl _ _ _ _) trivial
            · intro A wx hR hout hdep hmark K hK
              have h112 : A.tmps[112]?.getD undef = .bool false := hdep 112 (by kernel_rfl)
              refine if_not (by rw [wanted_is (j := 22) (b := true) (by kernel_rfl) (by kernel_rfl) h112]; decide) ?_
              exact hK.out _ _ (RM.refl _ _ _ _) trivial
            · intro A wx hR hout hdep hmark K hK
              have h14 : A.tmps[14]?.getD undef = .pointer (some ⟨wr.heap.size, 0, none⟩) := hout 14 (by kernel_rfl)
              have h112 : A.tmps[112]?.getD undef = .bool false := hdep 112 (by kernel_rfl)
              refine if_not (by rw [wanted_is (j := 22) (b := true) (by kernel_rfl) (by kernel_rfl) h112]; decide) ?_
              exact hK.out _ _ (RM.refl _ _ _ _) trivial
            · intro A wx hR hout hdep hmark K hK
              have h112 : A.tmps[112]?.getD undef = .bool false := hdep 112 (by kernel_rfl)
              refine if_not (by rw [wanted_is (j := 22) (b := true) (by kernel_rfl) (by kernel_rfl) h112]; decide) ?_
              exact hK.out _ _ (RM.refl _ _ _ _) trivial
            · intro A wx hR hout hdep hmark K hK
              have h112 : A.tmps[112]?.getD undef = .bool false := hdep 112 (by kernel_rfl)
              refine if_not (by rw [wanted_is (j := 22) (b := true) (by kernel_rfl) (by kernel_rfl) h112]; decide) ?_
              exact hK.out _ _ (RM.refl _ _ _ _) trivial
            · intro A wx hR hout hdep hmark K hK
              have h112 : A.tmps[112]?.getD undef = .bool false := hdep 112 (by kernel_rfl)
              refine if_not (by rw [wanted_is (j := 22) (b := true) (by kernel_rfl) (by kernel_rfl) h112]; decide) ?_
              exact hK.out _ _ (RM.refl _ _ _ _) trivial
            · intro A wx hR hout hdep hmark K hK
              have h15 : A.tmps[15]?.getD undef = .bool false := hout 15 (by kernel_rfl)
              have h112 : A.tmps[112]?.getD undef = .bool false := hdep 112 (by kernel_rfl)
              refine if_not (by rw [wanted_is (j := 22) (b := true) (by kernel_rfl) (by kernel_rfl) h112]; decide) ?_
              exact hK.out _ _ (RM.refl _ _ _ _) trivial
            · intro A wx hR hout hdep hmark K hK
              have h112 : A.tmps[112]?.getD undef = .bool false := hdep 112 (by kernel_rfl)
              refine if_not (by rw [wanted_is (j := 22) (b := true) (by kernel_rfl) (by kernel_rfl) h112]; decide) ?_
              exact hK.out _ _ (RM.refl _ _ _ _) trivial
            · intro A wx hR hout hdep hmark K hK
              have h112 : A.tmps[112]?.getD undef = .bool false := hdep 112 (by kernel_rfl)
              have h109 : A.tmps[109]?.getD undef = .bool false := hdep 109 (by kernel_rfl)
              refine if_yes ((wanted_is (j := 19) (b := false) (by kernel_rfl) (by kernel_rfl) h109).trans rfl) ?_
              simp [go_sem, h112, hq1, hq2, hq1', hq2', hv]
              exact hK.out _ _ (RM.refl _ _ _ _) rfl
            · intro A wx hR hout hdep hmark K hK
              have h109 : A.tmps[109]?.getD undef = .bool false := hdep 109 (by kernel_rfl)
              have h121 : A.tmps[121]?.getD undef = .bool false := hdep 121 (by kernel_rfl)
              refine if_yes (by kernel_rfl) ?_
              simp [go_sem, h109, h121, hq1, hq2, hq1', hq2', hv]
              exact hK.out _ _ (RM.refl _ _ _ _) rfl
            simp only [putSl, Act.put, List.setIfInBounds_toArray, List.set_cons_zero, List.set_cons_succ]
            have hz : f 122 = .bool false := hf 122 (by kernel_rfl)
            rw [hz]
            have hbz := below_tr hbz hR.1
            clear hf hz
            go_wp2
            go_roundw
            case rel => exact ⟨k + 1, by omega, by go_num, hbz⟩
            case measure => simp [intOf]; omega
          · obtain ⟨q, hq⟩ : ∃ z, z = p - fp := ⟨_, rfl⟩
            have t1 : IntKind.u32.wrap ((p : Int) - (fp : Int)) = (q : Int) := by rw [IntKind.wrap_u32]; omega
            have t2 : ((p : Int) - (fp : Int)) % 4294967296 = (q : Int) := by omega
            have hd1 : (fp ≤ p) = True := by simp; omega
            by_cases hqk : q < kk
            · have hd2 : (q < kk) = True := by simp [hqk]
              have hi : inR a n p = true := by unfold inR; rw [← HFP.out, ← HKK.out]; simp; omega
              rw [hi, if_pos rfl] at hpx
              have hv : True := trivial
              clear hi
              clear hpf hq hqk
              go_wp2
              refine wp_region_slots (R := Ext) [⟨77, fun v _ => v = .pointer (some ⟨wr.heap.size, 0, none⟩), fun _ _ _ _ h => h⟩, ⟨78, fun v _ => v = .int .u32 (p : Int), fun _ _ _ _ h => h⟩, ⟨79, fun v _ => v = .int .u32 (a : Int), fun _ _ _ _ h => h⟩, ⟨80, fun v _ => v = .int .u32 (fp : Int), fun _ _ _ _ h => h⟩, ⟨81, fun v _ => v = .bool true, fun _ _ _ _ h => h⟩, ⟨82, fun v _ => v = .bool true, fun _ _ _ _ h => h⟩, ⟨83, fun v _ => v = .pointer (some ⟨wr.heap.size, 0, none⟩), fun _ _ _ _ h => h⟩, ⟨84, fun v _ => v = .int .u32 (p : Int), fun _ _ _ _ h => h⟩, ⟨85, fun v _ => v = .int .u32 (a : Int), fun _ _ _ _ h => h⟩, ⟨86, fun v _ => v = .int .u32 (fp : Int), fun _ _ _ _ h => h⟩, ⟨87, fun v _ => v = .int .u32 (q : Int), fun _ _ _ _ h => h⟩, ⟨88, fun v _ => v = .int .u32 (n : Int), fun _ _ _ _ h => h⟩, ⟨89, fun v _ => v = .int .u32 (kk : Int), fun _ _ _ _ h => h⟩, ⟨90, fun v _ => v = .bool true, fun _ _ _ _ h => h⟩, ⟨91, fun v _ => v = .bool true, fun _ _ _ _ h => h⟩, ⟨15, fun v _ => v = .bool true, fun _ _ _ _ h => h⟩] _ (by kernel_rfl) rfl (by kernel_rfl) (Below.drew (Below.refl _ _)) (fun _ _ _ h1 h2 => below_tr h1 h2) (fun QQ => ⟨?_, ?_, ?_, ?_, ?_, ?_, ?_, ?_, ?_, ?_, ?_, ?_, ?_, ?_, ?_, ?_, trivial⟩) (fun f wy hR hf => ?_)
              · intro A wx hR hout hdep K hK
                have h14 : A.tmps[14]?.getD undef = .pointer (some ⟨wr.heap.size, 0, none⟩) := hout 14 (by kernel_rfl)
                refine if_yes (by kernel_rfl) ?_
                simp [go_sem, h14, hd1, hd2, t1, t2, z1, z2, z2', z3]
                exact hK.out _ _ (Below.refl _ _) rfl
              · intro A wx hR hout hdep K hK
                have h77 : A.tmps[77]?.getD undef = .pointer (some ⟨wr.heap.size, 0, none⟩) := hdep 77 (by kernel_rfl)
                refine if_yes (by kernel_rfl) ?_
                have l0 := keep_cell hR l0
                have l1 := keep_cell hR l1
                simp [go_sem, h77, l0, l1, hd1, hd2, t1, t2, z1, z2, z2', z3]
                exact hK.out _ _ (Below.refl _ _) rfl
              · intro A wx hR hout hdep K hK
                have h1 : A.tmps[1]?.getD undef = .int .u32 (a : Int) := hout 1 (by kernel_rfl)
                refine if_yes (by kernel_rfl) ?_
                simp [go_sem, h1, hd1, hd2, t1, t2, z1, z2, z2', z3]
                exact hK.out _ _ (Below.refl _ _) rfl
              · intro A wx hR hout hdep K hK
                have h79 : A.tmps[79]?.getD undef = .int .u32 (a : Int) := hdep 79 (by kernel_rfl)
                refine if_yes (by kernel_rfl) ?_
                simp [go_sem, h79, hd1, hd2, t1, t2, z1, z2, z2', z3]
                exact hK.out _ _ (Below.refl _ _) rfl
              · intro A wx hR hout hdep K hK
                have h78 : A.tmps[78]?.getD undef = .int .u32 (p : Int) := hdep 78 (by kernel_rfl)
                have h80 : A.tmps[80]?.getD undef = .int .u32 (fp : Int) := hdep 80 (by kernel_rfl)
                refine if_yes (by kernel_rfl) ?_
                simp [go_sem, h78, h80, hd1, hd2, t1, t2, z1, z2, z2', z3]
                exact hK.out _ _ (Below.refl _ _) rfl
              · intro A wx hR hout hdep K hK
                have h81 : A.tmps[81]?.getD undef = .bool true := hdep 81 (by kernel_rfl)
                refine if_yes (by kernel_rfl) ?_
                simp [go_sem, h81, hd1, hd2, t1, t2, z1, z2, z2', z3]
                exact hK.out _ _ (Below.refl _ _) rfl
              · intro A wx hR hout hdep K hK
                have h14 : A.tmps[14]?.getD undef = .pointer (some ⟨wr.heap.size, 0, none⟩) := hout 14 (by kernel_rfl)
                have h82 : A.tmps[82]?.getD undef = .bool true := hdep 82 (by kernel_rfl)
                refine if_yes ((wanted_is (j := 5) (b := true) (by kernel_rfl) (by kernel_rfl) h82).trans rfl) ?_
                simp [go_sem, h14, hd1, hd2, t1, t2, z1, z2, z2', z3]
                exact hK.out _ _ (Below.refl _ _) rfl
              · intro A wx hR hout hdep K hK
                have h83 : A.tmps[83]?.getD undef = .pointer (some ⟨wr.heap.size, 0, none⟩) := hdep 83 (by kernel_rfl)
                have h82 : A.tmps[82]?.getD undef = .bool true := hdep 82 (by kernel_rfl)
                refine if_yes ((wanted_is (j := 5) (b := true) (by kernel_rfl) (by kernel_rfl) h82).trans rfl) ?_
                have l0 := keep_cell hR l0
                have l1 := keep_cell hR l1
                simp [go_sem, h83, l0, l1, hd1, hd2, t1, t2, z1, z2, z2', z3]
                exact hK.out _ _ (Below.refl _ _) rfl
              · intro A wx hR hout hdep K hK
                have h1 : A.tmps[1]?.getD undef = .int .u32 (a : Int) := hout 1 (by kernel_rfl)
                have h82 : A.tmps[82]?.getD undef = .bool true := hdep 82 (by kernel_rfl)
                refine if_yes ((wanted_is (j := 5) (b := true) (by kernel_rfl) (by kernel_rfl) h82).trans rfl) ?_
                simp [go_sem, h1, hd1, hd2, t1, t2, z1, z2, z2', z3]
                exact hK.out _ _ (Below.refl _ _) rfl
              · intro A wx hR hout hdep K hK
                have h85 : A.tmps[85]?.getD undef = .int .u32 (a : Int) := hdep 85 (by kernel_rfl)
                have h82 : A.tmps[82]?.getD undef = .bool true := hdep 82 (by kernel_rfl)
                refine if_yes ((wanted_is (j := 5) (b := true) (by kernel_rfl) (by kernel_rfl) h82).trans rfl) ?_
                simp [go_sem, h85, hd1, hd2, t1, t2, z1, z2, z2', z3]
                exact hK.out _ _ (Below.refl _ _) rfl
              · intro A wx hR hout hdep K hK
                have h84 : A.tmps[84]?.getD undef = .int .u32 (p : Int) := hdep 84 (by kernel_rfl)
                have h86 : A.tmps[86]?.getD undef = .int .u32 (fp : Int) := hdep 86 (by kernel_rfl)
                have h82 : A.tmps[82]?.getD undef = .bool true := hdep 82 (by kernel_rfl)
                refine if_yes ((wanted_is (j := 5) (b := true) (by kernel_rfl) (by kernel_rfl) h82).trans rfl) ?_
                simp [go_sem, h84, h86, hd1, hd2, t1, t2, z1, z2, z2', z3]
                exact hK.out _ _ (Below.refl _ _) rfl
              · intro A wx hR hout hdep K hK
                have h2 : A.tmps[2]?.getD undef = .int .u32 (n : Int) := hout 2 (by kernel_rfl)
                have h82 : A.tmps[82]?.getD undef = .bool true := hdep 82 (by kernel_rfl)
                refine if_yes ((wanted_is (j := 5) (b := true) (by kernel_rfl) (by kernel_rfl) h82).trans rfl) ?_
                simp [go_sem, h2, hd1, hd2, t1, t2, z1, z2, z2', z3]
                exact hK.out _ _ (Below.refl _ _) rfl
              · intro A wx hR hout hdep K hK
                have h88 : A.tmps[88]?.getD undef = .int .u32 (n : Int) := hdep 88 (by kernel_rfl)
                have h82 : A.tmps[82]?.getD undef = .bool true := hdep 82 (by kernel_rfl)
                refine if_yes ((wanted_is (j := 5) (b := true) (by kernel_rfl) (by kernel_rfl) h82).trans rfl) ?_
                simp [go_sem, h88, hd1, hd2, t1, t2, z1, z2, z2', z3]
                refine (K20.out wx).mono ?_
                rintro e wG ⟨rfl, rfl⟩
                exact hK.out _ _ (Below.refl _ _) rfl
              · intro A wx hR hout hdep K hK
                have h87 : A.tmps[87]?.getD undef = .int .u32 (q : Int) := hdep 87 (by kernel_rfl)
                have h89 : A.tmps[89]?.getD undef = .int .u32 (kk : Int) := hdep 89 (by kernel_rfl)
                have h82 : A.tmps[82]?.getD undef = .bool true := hdep 82 (by kernel_rfl)
                refine if_yes ((wanted_is (j := 5) (b := true) (by kernel_rfl) (by kernel_rfl) h82).trans rfl) ?_
                simp [go_sem, h87, h89, hd1, hd2, t1, t2, z1, z2, z2', z3]
                exact hK.out _ _ (Below.refl _ _) rfl
              · intro A wx hR hout hdep K hK
                have h82 : A.tmps[82]?.getD undef = .bool true := hdep 82 (by kernel_rfl)
                have h90 : A.tmps[90]?.getD undef = .bool true := hdep 90 (by kernel_rfl)
                refine if_yes (by kernel_rfl) ?_
                simp [go_sem, h82, h90, hd1, hd2, t1, t2, z1, z2, z2', z3]
                exact hK.out _ _ (Below.refl _ _) rfl
              · intro A wx hR hout hdep K hK
                have h91 : A.tmps[91]?.getD undef = .bool true := hdep 91 (by kernel_rfl)
                refine if_yes (by kernel_rfl) ?_
                simp [go_sem, h91, hd1, hd2, t1, t2, z1, z2, z2', z3]
                exact hK.out _ _ (Below.refl _ _) rfl
              simp only [putSl, Act.put, List.setIfInBounds_toArray, List.set_cons_zero, List.set_cons_succ]
              have hz : f 15 = .bool true := hf 15 (by kernel_rfl)
              rw [hz]
              have hbz := below_tr (below_tr hbr hb5) hR
              have l0 := keep_cell hR l0
              have l1 := keep_cell hR l1
              have d0 := keep_cell hR d0
              have d1 := keep_cell hR d1
              have d2 := keep_cell hR d2
              have d3 := keep_cell hR d3
              have g0 := keep_cell hR g0
              have g1 := keep_cell hR g1
              have g2 := keep_cell hR g2
              have g3 := keep_cell hR g3
              clear hf hz hR
              obtain ⟨W6, rfl⟩ : ∃ z, z = wy := ⟨_, rfl⟩
              go_wp2
              refine wp_region_marks (R := RM prot r W6.heap.size) [⟨92, fun v _ => v = .int .i64 0, fun _ _ _ _ h => h⟩, ⟨93, fun v _ => v = .bool true, fun _ _ _ _ h => h⟩, ⟨94, fun v _ => v = .bool true, fun _ _ _ _ h => h⟩, ⟨95, fun v _ => v = .pointer (some ⟨w3.heap.size, 0, none⟩), fun _ _ _ _ h => h⟩, ⟨96, fun v _ => v = .agg #[.slice x1 x2 x3, .slice x4 x5 x6, .int .u64 (bs : Int), .slice x7 s8 x9], fun _ _ _ _ h => h⟩, ⟨97, fun v _ => v = .pointer (some ⟨wr.heap.size, 0, none⟩), fun _ _ _ _ h => h⟩, ⟨98, fun v _ => v = .int .u32 (p : Int), fun _ _ _ _ h => h⟩, ⟨99, fun v _ => v = .int .i64 prot, fun _ _ _ _ h => h⟩, ⟨100, fun v w => ∃ b L, v = .map (some b) ∧ W6.heap.size ≤ b ∧ MapAt w b L ∧ GoodL prot r L, fun v w w' hR ⟨b, L, e, hB, m, g⟩ => (hR.2 b L m g).elim fun L' h => ⟨b, L', e, hB, h.1, h.2.1⟩⟩, ⟨101, fun v _ => v = .int .i64 prot, fun _ _ _ _ h => h⟩, ⟨102, fun v _ => v = .pointer (some ⟨wr.heap.size, 1, none⟩), fun _ _ _ _ h => h⟩, ⟨103, fun v _ => v = .int .i64 r, fun _ _ _ _ h => h⟩, ⟨104, fun v w => ∃ b L, v = .map (some b) ∧ MapAt w b L ∧ GoodL prot r L ∧ HasT prot r L ∧ HasF prot r L, fun v w w' hR ⟨b, L, e, m, g, t, f⟩ => (hR.2 b L m g).elim fun L' h => ⟨b, L', e, h.1, h.2.1, h.2.2.1 t, h.2.2.2 f⟩⟩, ⟨105, fun v _ => v = .bool true, fun _ _ _ _ h => h⟩, ⟨106, fun v _ => v = .int .i64 prot, fun _ _ _ _ h => h⟩, ⟨107, fun v _ => v = .bool false, fun _ _ _ _ h => h⟩, ⟨108, fun v _ => v = .bool false, fun _ _ _ _ h => h⟩, ⟨109, fun v _ => v = .bool false, fun _ _ _ _ h => h⟩, ⟨110, fun v _ => v = .int .i64 err2, fun _ _ _ _ h => h⟩, ⟨111, fun v _ => v = .bool false, fun _ _ _ _ h => h⟩, ⟨112, fun v _ => v = .bool false, fun _ _ _ _ h => h⟩, ⟨121, fun v _ => v = .bool false, fun _ _ _ _ h => h⟩, ⟨122, fun v _ => v = .bool false, fun _ _ _ _ h => h⟩] (MarkM prot r) depM _ (by kernel_rfl) rfl (by kernel_rfl) (by kernel_rfl) (RM.drew _ _ _ _) (fun _ _ _ h1 h2 => h1.trans h2) (fun i f f' w w' => MarkM.keep i f f' w w') (fun QQ => ⟨?_, ?_, ?_, ?_, ?_, ?_, ?_, ?_, ?_, ?_, ?_, ?_, ?_, ?_, ?_, ?_, ?_, ?_, ?_, ?_, ?_, ?_, ?_, ?_, ?_, ?_, ?_, ?_, ?_, ?_, ?_, ?_, ?_, trivial⟩) (fun f wy hR hf => ?_)
              · intro A wx hR hout hdep hmark K hK
                have h10 : A.tmps[10]?.getD undef = .int .i64 0 := hout 10 (by kernel_rfl)
                refine if_yes (by kernel_rfl) ?_
                simp [go_sem, h10, hq1, hq2, hq1', hq2', hv]
                exact hK.out _ _ (RM.refl _ _ _ _) rfl
              · intro A wx hR hout hdep hmark K hK
                have h92 : A.tmps[92]?.getD undef = .int .i64 0 := hdep 92 (by kernel_rfl)
                refine if_yes (by kernel_rfl) ?_
                simp [go_sem, h92, hq1, hq2, hq1', hq2', hv]
                exact hK.out _ _ (RM.refl _ _ _ _) rfl
              · intro A wx hR hout hdep hmark K hK
                have h93 : A.tmps[93]?.getD undef = .bool true := hdep 93 (by kernel_rfl)
                refine if_yes (by kernel_rfl) ?_
                simp [go_sem, h93, hq1, hq2, hq1', hq2', hv]
                exact hK.out _ _ (RM.refl _ _ _ _) rfl
              · intro A wx hR hout hdep hmark K hK
                have h9 : A.tmps[9]?.getD undef = .pointer (some ⟨w3.heap.size, 0, none⟩) := hout 9 (by kernel_rfl)
                have h94 : A.tmps[94]?.getD undef = .bool true := hdep 94 (by kernel_rfl)
                refine if_yes ((wanted_is (j := 2) (b := true) (by kernel_rfl) (by kernel_rfl) h94).trans rfl) ?_
                simp [go_sem, h9, hq1, hq2, hq1', hq2', hv]
                exact hK.out _ _ (RM.refl _ _ _ _) rfl
              · intro A wx hR hout hdep hmark K hK
                have h95 : A.tmps[95]?.getD undef = .pointer (some ⟨w3.heap.size, 0, none⟩) := hdep 95 (by kernel_rfl)
                have h94 : A.tmps[94]?.getD undef = .bool true := hdep 94 (by kernel_rfl)
                refine if_yes ((wanted_is (j := 2) (b := true) (by kernel_rfl) (by kernel_rfl) h94).trans rfl) ?_
                have l0 := keep_cell hR.1 l0
                have l1 := keep_cell hR.1 l1
                have d0 := keep_cell hR.1 d0
                have d1 := keep_cell hR.1 d1
                have d2 := keep_cell hR.1 d2
                have d3 := keep_cell hR.1 d3
                have g0 := keep_cell hR.1 g0
                have g1 := keep_cell hR.1 g1
                have g2 := keep_cell hR.1 g2
                have g3 := keep_cell hR.1 g3
                simp [go_sem, h95, l0, l1, d0, d1, d2, d3, g0, g1, g2, g3, hq1, hq2, hq1', hq2', hv]
                exact hK.out _ _ (RM.refl _ _ _ _) rfl
              · intro A wx hR hout hdep hmark K hK
                have h14 : A.tmps[14]?.getD undef = .pointer (some ⟨wr.heap.size, 0, none⟩) := hout 14 (by kernel_rfl)
                have h94 : A.tmps[94]?.getD undef = .bool true := hdep 94 (by kernel_rfl)
                refine if_yes ((wanted_is (j := 2) (b := true) (by kernel_rfl) (by kernel_rfl) h94).trans rfl) ?_
                simp [go_sem, h14, hq1, hq2, hq1', hq2', hv]
                exact hK.out _ _ (RM.refl _ _ _ _) rfl
              · intro A wx hR hout hdep hmark K hK
                have h97 : A.tmps[97]?.getD undef = .pointer (some ⟨wr.heap.size, 0, none⟩) := hdep 97 (by kernel_rfl)
                have h94 : A.tmps[94]?.getD undef = .bool true := hdep 94 (by kernel_rfl)
                refine if_yes ((wanted_is (j := 2) (b := true) (by kernel_rfl) (by kernel_rfl) h94).trans rfl) ?_
                have l0 := keep_cell hR.1 l0
                have l1 := keep_cell hR.1 l1
                have d0 := keep_cell hR.1 d0
                have d1 := keep_cell hR.1 d1
                have d2 := keep_cell hR.1 d2
                have d3 := keep_cell hR.1 d3
                have g0 := keep_cell hR.1 g0
                have g1 := keep_cell hR.1 g1
                have g2 := keep_cell hR.1 g2
                have g3 := keep_cell hR.1 g3
                simp [go_sem, h97, l0, l1, d0, d1, d2, d3, g0, g1, g2, g3, hq1, hq2, hq1', hq2', hv]
                exact hK.out _ _ (RM.refl _ _ _ _) rfl
              · intro A wx hR hout hdep hmark K hK
                have h96 : A.tmps[96]?.getD undef = .agg #[.slice x1 x2 x3, .slice x4 x5 x6, .int .u64 (bs : Int), .slice x7 s8 x9] := hdep 96 (by kernel_rfl)
                have h98 : A.tmps[98]?.getD undef = .int .u32 (p : Int) := hdep 98 (by kernel_rfl)
                have h94 : A.tmps[94]?.getD undef = .bool true := hdep 94 (by kernel_rfl)
                refine if_yes ((wanted_is (j := 2) (b := true) (by kernel_rfl) (by kernel_rfl) h94).trans rfl) ?_
                simp [go_sem, h96, h98, hq1, hq2, hq1', hq2', hv]
                refine (KPx.out p _ (below_tr hb9 (below_tr hbz hR.1))).mono ?_
                rintro e wG ⟨rfl, hbG⟩
                rw [hpx]
                exact hK.out _ _ (RM.of hbG hR.1.size) rfl
              · intro A wx hR hout hdep hmark K hK
                have h94 : A.tmps[94]?.getD undef = .bool true := hdep 94 (by kernel_rfl)
                refine if_yes ((wanted_is (j := 2) (b := true) (by kernel_rfl) (by kernel_rfl) h94).trans rfl) ?_
                have hmm := @run_makeMap Tryz.prog 55 wx
                simp [go_sem, hmm]
                exact hK.out _ _ (RM.of ((Below.refl _ _).alloc (Nat.le_refl _) _) hR.1.size) ⟨_, [], rfl, hR.1.size, map_made prot r wx, .inl rfl⟩
              · intro A wx hR hout hdep hmark K hK
                have h3 : A.tmps[3]?.getD undef = .int .i64 prot := hout 3 (by kernel_rfl)
                have h94 : A.tmps[94]?.getD undef = .bool true := hdep 94 (by kernel_rfl)
                refine if_yes ((wanted_is (j := 2) (b := true) (by kernel_rfl) (by kernel_rfl) h94).trans rfl) ?_
                simp [go_sem, h3, hq1, hq2, hq1', hq2', hv]
                exact hK.out _ _ (RM.refl _ _ _ _) rfl
              · intro A wx hR hout hdep hmark K hK
                have h100 := hdep 100 (by kernel_rfl)
                have h101 : A.tmps[101]?.getD undef = .int .i64 prot := hdep 101 (by kernel_rfl)
                have h94 : A.tmps[94]?.getD undef = .bool true := hdep 94 (by kernel_rfl)
                refine if_yes ((wanted_is (j := 2) (b := true) (by kernel_rfl) (by kernel_rfl) h94).trans rfl) ?_
                obtain ⟨b0, L0, hv100, hBb, hMp, hG⟩ := h100
                obtain ⟨w', hrun, hRM, L', m', g', t', f'⟩ := map_ins (B := W6.heap.size) hMp hG hBb true prot rfl HPW.out
                simp [go_sem, hv100, h101, hrun]
                exact hK.out undef _ hRM ⟨fun _ => ⟨b0, L', (by show A.tmps.getD 100 undef = _; rw [Array.getD_eq_getD_getElem?]; exact hv100), m', g', t' rfl⟩, fun h => by cases h⟩
              · intro A wx hR hout hdep hmark K hK
                have h14 : A.tmps[14]?.getD undef = .pointer (some ⟨wr.heap.size, 0, none⟩) := hout 14 (by kernel_rfl)
                have h94 : A.tmps[94]?.getD undef = .bool true := hdep 94 (by kernel_rfl)
                refine if_yes ((wanted_is (j := 2) (b := true) (by kernel_rfl) (by kernel_rfl) h94).trans rfl) ?_
                simp [go_sem, h14, hq1, hq2, hq1', hq2', hv]
                exact hK.out _ _ (RM.refl _ _ _ _) rfl
              · intro A wx hR hout hdep hmark K hK
                have h102 : A.tmps[102]?.getD undef = .pointer (some ⟨wr.heap.size, 1, none⟩) := hdep 102 (by kernel_rfl)
                have h94 : A.tmps[94]?.getD undef = .bool true := hdep 94 (by kernel_rfl)
                refine if_yes ((wanted_is (j := 2) (b := true) (by kernel_rfl) (by kernel_rfl) h94).trans rfl) ?_
                have l0 := keep_cell hR.1 l0
                have l1 := keep_cell hR.1 l1
                have d0 := keep_cell hR.1 d0
                have d1 := keep_cell hR.1 d1
                have d2 := keep_cell hR.1 d2
                have d3 := keep_cell hR.1 d3
                have g0 := keep_cell hR.1 g0
                have g1 := keep_cell hR.1 g1
                have g2 := keep_cell hR.1 g2
                have g3 := keep_cell hR.1 g3
                simp [go_sem, h102, l0, l1, d0, d1, d2, d3, g0, g1, g2, g3, hq1, hq2, hq1', hq2', hv]
                exact hK.out _ _ (RM.refl _ _ _ _) rfl
              · intro A wx hR hout hdep hmark K hK
                have h100 := hdep 100 (by kernel_rfl)
                have h103 : A.tmps[103]?.getD undef = .int .i64 r := hdep 103 (by kernel_rfl)
                have h94 : A.tmps[94]?.getD undef = .bool true := hdep 94 (by kernel_rfl)
                refine if_yes ((wanted_is (j := 2) (b := true) (by kernel_rfl) (by kernel_rfl) h94).trans rfl) ?_
                obtain ⟨b0, L0, hv100, hBb, hMp, hG⟩ := h100
                obtain ⟨w', hrun, hRM, L', m', g', t', f'⟩ := map_ins (B := W6.heap.size) hMp hG hBb false r rfl hwr
                simp [go_sem, hv100, h103, hrun]
                exact hK.out undef _ hRM ⟨fun h => (by cases h), fun _ => ⟨b0, L', (by show A.tmps.getD 100 undef = _; rw [Array.getD_eq_getD_getElem?]; exact hv100), m', g', f' rfl⟩⟩
              · intro A wx hR hout hdep hmark K hK
                have h100 := hdep 100 (by kernel_rfl)
                have h94 : A.tmps[94]?.getD undef = .bool true := hdep 94 (by kernel_rfl)
                refine if_yes ((wanted_is (j := 2) (b := true) (by kernel_rfl) (by kernel_rfl) h94).trans rfl) ?_
                obtain ⟨b0, L0, hv100, hBb, hMp, hG⟩ := h100
                obtain ⟨b1, L1, e1, m1, g1, t1⟩ := (hmark 10 (by kernel_rfl)).1 rfl
                obtain ⟨b2, L2, e2, m2, g2, t2⟩ := (hmark 13 (by kernel_rfl)).2 rfl
                have e1' : A.tmps.getD 100 undef = .map (some b1) := e1
                have e2' : A.tmps.getD 100 undef = .map (some b2) := e2
                rw [Array.getD_eq_getD_getElem?, hv100] at e1' e2'
                cases e1'
                cases e2'
                obtain rfl := hMp.one m1
                obtain rfl := hMp.one m2
                simp [go_sem, hv100]
                exact hK.out _ _ (RM.refl _ _ _ _) ⟨b0, L0, rfl, hMp, hG, t1, t2⟩
              · intro A wx hR hout hdep hmark K hK
                have h15 : A.tmps[15]?.getD undef = .bool true := hout 15 (by kernel_rfl)
                have h94 : A.tmps[94]?.getD undef = .bool true := hdep 94 (by kernel_rfl)
                refine if_yes ((wanted_is (j := 2) (b := true) (by kernel_rfl) (by kernel_rfl) h94).trans rfl) ?_
                simp [go_sem, h15, hq1, hq2, hq1', hq2', hv]
                exact hK.out _ _ (RM.refl _ _ _ _) rfl
              · intro A wx hR hout hdep hmark K hK
                have h104 := hdep 104 (by kernel_rfl)
                have h105 : A.tmps[105]?.getD undef = .bool true := hdep 105 (by kernel_rfl)
                have h94 : A.tmps[94]?.getD undef = .bool true := hdep 94 (by kernel_rfl)
                refine if_yes ((wanted_is (j := 2) (b := true) (by kernel_rfl) (by kernel_rfl) h94).trans rfl) ?_
                obtain ⟨b0, L0, hv104, m1, g1, t1, f1⟩ := h104
                have hrun := map_look m1 t1 f1 true
                simp only [if_true, Bool.false_eq_true, if_false] at hrun
                simp [go_sem, hv104, h105, hrun]
                exact hK.out _ _ (RM.refl _ _ _ _) rfl
              · intro A wx hR hout hdep hmark K hK
                have h99 : A.tmps[99]?.getD undef = .int .i64 prot := hdep 99 (by kernel_rfl)
                have h106 : A.tmps[106]?.getD undef = .int .i64 prot := hdep 106 (by kernel_rfl)
                have h94 : A.tmps[94]?.getD undef = .bool true := hdep 94 (by kernel_rfl)
                refine if_yes ((wanted_is (j := 2) (b := true) (by kernel_rfl) (by kernel_rfl) h94).trans rfl) ?_
                simp [go_sem, h99, h106, hq1, hq2, hq1', hq2', hv]
                exact hK.out _ _ (RM.refl _ _ _ _) rfl
              · intro A wx hR hout hdep hmark K hK
                have h94 : A.tmps[94]?.getD undef = .bool true := hdep 94 (by kernel_rfl)
                have h107 : A.tmps[107]?.getD undef = .bool false := hdep 107 (by kernel_rfl)
                refine if_yes (by kernel_rfl) ?_
                simp [go_sem, h94, h107, hq1, hq2, hq1', hq2', hv]
                exact hK.out _ _ (RM.refl _ _ _ _) rfl
              · intro A wx hR hout hdep hmark K hK
                have h108 : A.tmps[108]?.getD undef = .bool false := hdep 108 (by kernel_rfl)
                refine if_yes (by kernel_rfl) ?_
                simp [go_sem, h108, hq1, hq2, hq1', hq2', hv]
                exact hK.out _ _ (RM.refl _ _ _ _) rfl
              · intro A wx hR hout hdep hmark K hK
                have h12 : A.tmps[12]?.getD undef = .int .i64 err2 := hout 12 (by kernel_rfl)
                have h109 : A.tmps[109]?.getD undef = .bool false := hdep 109 (by kernel_rfl)
                refine if_yes ((wanted_is (j := 19) (b := false) (by kernel_rfl) (by kernel_rfl) h109).trans rfl) ?_
                simp [go_sem, h12, hq1, hq2, hq1', hq2', hv]
                exact hK.out _ _ (RM.refl _ _ _ _) rfl
              · intro A wx hR hout hdep hmark K hK
                have h110 : A.tmps[110]?.getD undef = .int .i64 err2 := hdep 110 (by kernel_rfl)
                have h109 : A.tmps[109]?.getD undef = .bool false := hdep 109 (by kernel_rfl)
                refine if_yes ((wanted_is (j := 19) (b := false) (by kernel_rfl) (by kernel_rfl) h109).trans rfl) ?_
                simp [go_sem, h110, hq1, hq2, hq1', hq2', hv]
                exact hK.out _ _ (RM.refl _ _ _ _) rfl
              · intro A wx hR hout hdep hmark K hK
                have h111 : A.tmps[111]?.getD undef = .bool false := hdep 111 (by kernel_rfl)
                have h109 : A.tmps[109]?.getD undef = .bool false := hdep 109 (by kernel_rfl)
                refine if_yes ((wanted_is (j := 19) (b := false) (by kernel_rfl) (by kernel_rfl) h109).trans rfl) ?_
                simp [go_sem, h111, hq1, hq2, hq1', hq2', hv]
                exact hK.out _ _ (RM.refl _ _ _ _) rfl
              · intro A wx hR hout hdep hmark K hK
                have h11 : A.tmps[11]?.getD undef = .pointer (some ⟨w4.heap.size, 0, none⟩) := hout 11 (by kernel_rfl)
                have h112 : A.tmps[112]?.getD undef = .bool false := hdep 112 (by kernel_rfl)
                refine if_not (by rw [wanted_is (j := 22) (b := true) (by kernel_rfl) (by kernel_rfl) h112]; decide) ?_
                exact hK.out _ _ (RM.refl _ _ _ _) trivial
              · intro A wx hR hout hdep hmark K hK
                have h112 : A.tmps[112]?.getD undef = .bool false := hdep 112 (by kernel_rfl)
                refine if_not (by rw [wanted_is (j := 22) (b := true) (by kernel_rfl) (by kernel_rfl) h112]; decide) ?_
                exact hK.out _ _ (RM.refl _ _ _ _) trivial
              · intro A wx hR hout hdep hmark K hK
                have h14 : A.tmps[14]?.getD undef = .pointer (some ⟨wr.heap.size, 0, none⟩) := hout 14 (by kernel_rfl)
                have h112 : A.tmps[112]?.getD undef = .bool false := hdep 112 (by kernel_rfl)
                refine if_not (by rw [wanted_is (j := 22) (b := true) (by kernel_rfl) (by kernel_rfl) h112]; decide) ?_
                exact hK.out _ _ (RM.refl _ _ _ _) trivial
              · intro A wx hR hout hdep hmark K hK
                have h112 : A.tmps[112]?.getD undef = .bool false := hdep 112 (by kernel_rfl)
                refine if_not (by rw [wanted_is (j := 22) (b := true) (by kernel_rfl) (by kernel_rfl) h112]; decide) ?_
                exact hK.out _ _ (RM.refl _ _ _ _) trivial
              · intro A wx hR hout hdep hmark K hK
                have h112 : A.tmps[112]?.getD undef = .bool false := hdep 112 (by kernel_rfl)
                refine if_not (by rw [wanted_is (j := 22) (b := true) (by kernel_rfl) (by kernel_rfl) h112]; decide) ?_
                exact hK.out _ _ (RM.refl _ _ _ _) trivial
              · intro A wx hR hout hdep hmark K hK
                have h112 : A.tmps[112]?.getD undef = .bool false := hdep 112 (by kernel_rfl)
                refine if_not (by rw [wanted_is (j := 22) (b := true) (by kernel_rfl) (by kernel_rfl) h112]; decide) ?_
                exact hK.out _ _ (RM.refl _ _ _ _) trivial
              · intro A wx hR hout hdep hmark K hK
                have h15 : A.tmps[15]?.getD undef = .bool true := hout 15 (by kernel_rfl)
                have h112 : A.tmps[112]?.getD undef = .bool false := hdep 112 (by kernel_rfl)
                refine if_not (by rw [wanted_is (j := 22) (b := true) (by kernel_rfl) (by kernel_rfl) h112]; decide) ?_
                exact hK.out _ _ (RM.refl _ _ _ _) trivial
              · intro A wx hR hout hdep hmark K hK
                have h112 : A.tmps[112]?.getD undef = .bool false := hdep 112 (by kernel_rfl)
                refine if_not (by rw [wanted_is (j := 22) (b := true) (by kernel_rfl) (by kernel_rfl) h112]; decide) ?_
                exact hK.out _ _ (RM.refl _ _ _ _) trivial
              · intro A wx hR hout hdep hmark K hK
                have h112 : A.tmps[112]?.getD undef = .bool false := hdep 112 (by kernel_rfl)
                have h109 : A.tmps[109]?.getD undef = .bool false := hdep 109 (by kernel_rfl)
                refine if_yes ((wanted_is (j := 19) (b := false) (by kernel_rfl) (by kernel_rfl) h109).trans rfl) ?_
                simp [go_sem, h112, hq1, hq2, hq1', hq2', hv]
                exact hK.out _ _ (RM.refl _ _ _ _) rfl
              · intro A wx hR hout hdep hmark K hK
                have h109 : A.tmps[109]?.getD undef = .bool false := hdep 109 (by kernel_rfl)
                have h121 : A.tmps[121]?.getD undef = .bool false := hdep 121 (by kernel_rfl)
                refine if_yes (by kernel_rfl) ?_
                simp [go_sem, h109, h121, hq1, hq2, hq1', hq2', hv]
                exact hK.out _ _ (RM.refl _ _ _ _) rfl
              simp only [putSl, Act.put, List.setIfInBounds_toArray, List.set_cons_zero, List.set_cons_succ]
              have hz : f 122 = .bool false := hf 122 (by kernel_rfl)
              rw [hz]
              have hbz := below_tr hbz hR.1
              clear hf hz
              go_wp2
              go_roundw
              case rel => exact ⟨k + 1, by omega, by go_num, hbz⟩
              case measure => simp [intOf]; omega
            · have hd2 : (q < kk) = False := by simp [hqk]
              have hi : inR a n p = false := by unfold inR; rw [← HFP.out, ← HKK.out]; simp; omega
              rw [hi, if_neg (by decide)] at hpx
              have hv : True := trivial
              clear hi
              clear hpf hq hqk
              go_wp2
              refine wp_region_slots (R := Ext) [⟨77, fun v _ => v = .pointer (some ⟨wr.heap.size, 0, none⟩), fun _ _ _ _ h => h⟩, ⟨78, fun v _ => v = .int .u32 (p : Int), fun _ _ _ _ h => h⟩, ⟨79, fun v _ => v = .int .u32 (a : Int), fun _ _ _ _ h => h⟩, ⟨80, fun v _ => v = .int .u32 (fp : Int), fun _ _ _ _ h => h⟩, ⟨81, fun v _ => v = .bool true, fun _ _ _ _ h => h⟩, ⟨82, fun v _ => v = .bool true, fun _ _ _ _ h => h⟩, ⟨83, fun v _ => v = .pointer (some ⟨wr.heap.size, 0, none⟩), fun _ _ _ _ h => h⟩, ⟨84, fun v _ => v = .int .u32 (p : Int), fun _ _ _ _ h => h⟩, ⟨85, fun v _ => v = .int .u32 (a : Int), fun _ _ _ _ h => h⟩, ⟨86, fun v _ => v = .int .u32 (fp : Int), fun _ _ _ _ h => h⟩, ⟨87, fun v _ => v = .int .u32 (q : Int), fun _ _ _ _ h => h⟩, ⟨88, fun v _ => v = .int .u32 (n : Int), fun _ _ _ _ h => h⟩, ⟨89, fun v _ => v = .int .u32 (kk : Int), fun _ _ _ _ h => h⟩, ⟨90, fun v _ => v = .bool false, fun _ _ _ _ h => h⟩, ⟨91, fun v _ => v = .bool false, fun _ _ _ _ h => h⟩, ⟨15, fun v _ => v = .bool false, fun _ _ _ _ h => h⟩] _ (by kernel_rfl) rfl (by kernel_rfl) (Below.drew (Below.refl _ _)) (fun _ _ _ h1 h2 => below_tr h1 h2) (fun QQ => ⟨?_, ?_, ?_, ?_, ?_, ?_, ?_, ?_, ?_, ?_, ?_, ?_, ?_, ?_, ?_, ?_, trivial⟩) (fun f wy hR hf => ?_)
              · intro A wx hR hout hdep K hK
                have h14 : A.tmps[14]?.getD undef = .pointer (some ⟨wr.heap.size, 0, none⟩) := hout 14 (by kernel_rfl)
                refine if_yes (by kernel_rfl) ?_
                simp [go_sem, h14, hd1, hd2, t1, t2, z1, z2, z2', z3]
                exact hK.out _ _ (Below.refl _ _) rfl
              · intro A wx hR hout hdep K hK
                have h77 : A.tmps[77]?.getD undef = .pointer (some ⟨wr.heap.size, 0, none⟩) := hdep 77 (by kernel_rfl)
                refine if_yes (by kernel_rfl) ?_
                have l0 := keep_cell hR l0
                have l1 := keep_cell hR l1
                simp [go_sem, h77, l0, l1, hd1, hd2, t1, t2, z1, z2, z2', z3]
                exact hK.out _ _ (Below.refl _ _) rfl
              · intro A wx hR hout hdep K hK
                have h1 : A.tmps[1]?.getD undef = .int .u32 (a : Int) := hout 1 (by kernel_rfl)
                refine if_yes (by kernel_rfl) ?_
                simp [go_sem, h1, hd1, hd2, t1, t2, z1, z2, z2', z3]
                exact hK.out _ _ (Below.refl _ _) rfl
              · intro A wx hR hout hdep K hK
                have h79 : A.tmps[79]?.getD undef = .int .u32 (a : Int) := hdep 79 (by kernel_rfl)
                refine if_yes (by kernel_rfl) ?_
                simp [go_sem, h79, hd1, hd2, t1, t2, z1, z2, z2', z3]
                exact hK.out _ _ (Below.refl _ _) rfl
              · intro A wx hR hout hdep K hK
                have h78 : A.tmps[78]?.getD undef = .int .u32 (p : Int) := hdep 78 (by kernel_rfl)
                have h80 : A.tmps[80]?.getD undef = .int .u32 (fp : Int) := hdep 80 (by kernel_rfl)
                refine if_yes (by kernel_rfl) ?_
                simp [go_sem, h78, h80, hd1, hd2, t1, t2, z1, z2, z2', z3]
                exact hK.out _ _ (Below.refl _ _) rfl
              · intro A wx hR hout hdep K hK
                have h81 : A.tmps[81]?.getD undef = .bool true := hdep 81 (by kernel_rfl)
                refine if_yes (by kernel_rfl) ?_
                simp [go_sem, h81, hd1, hd2, t1, t2, z1, z2, z2', z3]
                exact hK.out _ _ (Below.refl _ _) rfl
              · intro A wx hR hout hdep K hK
                have h14 : A.tmps[14]?.getD undef = .pointer (some ⟨wr.heap.size, 0, none⟩) := hout 14 (by kernel_rfl)
                have h82 : A.tmps[82]?.getD undef = .bool true := hdep 82 (by kernel_rfl)
                refine if_yes ((wanted_is (j := 5) (b := true) (by kernel_rfl) (by kernel_rfl) h82).trans rfl) ?_
                simp [go_sem, h14, hd1, hd2, t1, t2, z1, z2, z2', z3]
                exact hK.out _ _ (Below.refl _ _) rfl
              · intro A wx hR hout hdep K hK
                have h83 : A.tmps[83]?.getD undef = .pointer (some ⟨wr.heap.size, 0, none⟩) := hdep 83 (by kernel_rfl)
                have h82 : A.tmps[82]?.getD undef = .bool true := hdep 82 (by kernel_rfl)
                refine if_yes ((wanted_is (j := 5) (b := true) (by kernel_rfl) (by kernel_rfl) h82).trans rfl) ?_
                have l0 := keep_cell hR l0
                have l1 := keep_cell hR l1
                simp [go_sem, h83, l0, l1, hd1, hd2, t1, t2, z1, z2, z2', z3]
                exact hK.out _ _ (Below.refl _ _) rfl
              · intro A wx hR hout hdep K hK
                have h1 : A.tmps[1]?.getD undef = .int .u32 (a : Int) := hout 1 (by kernel_rfl)
                have h82 : A.tmps[82]?.getD undef = .bool true := hdep 82 (by kernel_rfl)
                refine if_yes ((wanted_is (j := 5) (b := true) (by kernel_rfl) (by kernel_rfl) h82).trans rfl) ?_
                simp [go_sem, h1, hd1, hd2, t1, t2, z1, z2, z2', z3]
                exact hK.out _ _ (Below.refl _ _) rfl
              · intro A wx hR hout hdep K hK
                have h85 : A.tmps[85]?.getD undef = .int .u32 (a : Int) := hdep 85 (by kernel_rfl)
                have h82 : A.tmps[82]?.getD undef = .bool true := hdep 82 (by kernel_rfl)
                refine if_yes ((wanted_is (j := 5) (b := true) (by kernel_rfl) (by kernel_rfl) h82).trans rfl) ?_
                simp [go_sem, h85, hd1, hd2, t1, t2, z1, z2, z2', z3]
                exact hK.out _ _ (Below.refl _ _) rfl
              · intro A wx hR hout hdep K hK
                have h84 : A.tmps[84]?.getD undef = .int .u32 (p : Int) := hdep 84 (by kernel_rfl)
                have h86 : A.tmps[86]?.getD undef = .int .u32 (fp : Int) := hdep 86 (by kernel_rfl)
                have h82 : A.tmps[82]?.getD undef = .bool true := hdep 82 (by kernel_rfl)
                refine if_yes ((wanted_is (j := 5) (b := true) (by kernel_rfl) (by kernel_rfl) h82).trans rfl) ?_
                simp [go_sem, h84, h86, hd1, hd2, t1, t2, z1, z2, z2', z3]
                exact hK.out _ _ (Below.refl _ _) rfl
              · intro A wx hR hout hdep K hK
                have h2 : A.tmps[2]?.getD undef = .int .u32 (n : Int) := hout 2 (by kernel_rfl)
                have h82 : A.tmps[82]?.getD undef = .bool true := hdep 82 (by kernel_rfl)
                refine if_yes ((wanted_is (j := 5) (b := true) (by kernel_rfl) (by kernel_rfl) h82).trans rfl) ?_
                simp [go_sem, h2, hd1, hd2, t1, t2, z1, z2, z2', z3]
                exact hK.out _ _ (Below.refl _ _) rfl
              · intro A wx hR hout hdep K hK
                have h88 : A.tmps[88]?.getD undef = .int .u32 (n : Int) := hdep 88 (by kernel_rfl)
                have h82 : A.tmps[82]?.getD undef = .bool true := hdep 82 (by kernel_rfl)
                refine if_yes ((wanted_is (j := 5) (b := true) (by kernel_rfl) (by kernel_rfl) h82).trans rfl) ?_
                simp [go_sem, h88, hd1, hd2, t1, t2, z1, z2, z2', z3]
                refine (K20.out wx).mono ?_
                rintro e wG ⟨rfl, rfl⟩
                exact hK.out _ _ (Below.refl _ _) rfl
              · intro A wx hR hout hdep K hK
                have h87 : A.tmps[87]?.getD undef = .int .u32 (q : Int) := hdep 87 (by kernel_rfl)
                have h89 : A.tmps[89]?.getD undef = .int .u32 (kk : Int) := hdep 89 (by kernel_rfl)
                have h82 : A.tmps[82]?.getD undef = .bool true := hdep 82 (by kernel_rfl)
                refine if_yes ((wanted_is (j := 5) (b := true) (by kernel_rfl) (by kernel_rfl) h82).trans rfl) ?_
                simp [go_sem, h87, h89, hd1, hd2, t1, t2, z1, z2, z2', z3]
                exact hK.out _ _ (Below.refl _ _) rfl
              · intro A wx hR hout hdep K hK
                have h82 : A.tmps[82]?.getD undef = .bool true := hdep 82 (by kernel_rfl)
                have h90 : A.tmps[90]?.getD undef = .bool false := hdep 90 (by kernel_rfl)
                refine if_yes (by kernel_rfl) ?_
                simp [go_sem, h82, h90, hd1, hd2, t1, t2, z1, z2, z2', z3]
                exact hK.out _ _ (Below.refl _ _) rfl
              · intro A wx hR hout hdep K hK
                have h91 : A.tmps[91]?.getD undef = .bool false := hdep 91 (by kernel_rfl)
                refine if_yes (by kernel_rfl) ?_
                simp [go_sem, h91, hd1, hd2, t1, t2, z1, z2, z2', z3]
                exact hK.out _ _ (Below.refl _ _) rfl
              simp only [putSl, Act.put, List.setIfInBounds_toArray, List.set_cons_zero, List.set_cons_succ]
              have hz : f 15 = .bool false := hf 15 (by kernel_rfl)
              rw [hz]
              have hbz := below_tr (below_tr hbr hb5) hR
              have l0 := keep_cell hR l0
              have l1 := keep_cell hR l1
              have d0 := keep_cell hR d0
              have d1 := keep_cell hR d1
              have d2 := keep_cell hR d2
              have d3 := keep_cell hR d3
              have g0 := keep_cell hR g0
              have g1 := keep_cell hR g1
              have g2 := keep_cell hR g2
              have g3 := keep_cell hR g3
              clear hf hz hR
              obtain ⟨W6, rfl⟩ : ∃ z, z = wy := ⟨_, rfl⟩
              go_wp2
              refine wp_region_marks (R := RM prot r W6.heap.size) [⟨92, fun v _ => v = .int .i64 0, fun _ _ _ _ h => h⟩, ⟨93, fun v _ => v = .bool true, fun _ _ _ _ h => h⟩, ⟨94, fun v _ => v = .bool true, fun _ _ _ _ h => h⟩, ⟨95, fun v _ => v = .pointer (some ⟨w3.heap.size, 0, none⟩), fun _ _ _ _ h => h⟩, ⟨96, fun v _ => v = .agg #[.slice x1 x2 x3, .slice x4 x5 x6, .int .u64 (bs : Int), .slice x7 s8 x9], fun _ _ _ _ h => h⟩, ⟨97, fun v _ => v = .pointer (some ⟨wr.heap.size, 0, none⟩), fun _ _ _ _ h => h⟩, ⟨98, fun v _ => v = .int .u32 (p : Int), fun _ _ _ _ h => h⟩, ⟨99, fun v _ => v = .int .i64 r, fun _ _ _ _ h => h⟩, ⟨100, fun v w => ∃ b L, v = .map (some b) ∧ W6.heap.size ≤ b ∧ MapAt w b L ∧ GoodL prot r L, fun v w w' hR ⟨b, L, e, hB, m, g⟩ => (hR.2 b L m g).elim fun L' h => ⟨b, L', e, hB, h.1, h.2.1⟩⟩, ⟨101, fun v _ => v = .int .i64 prot, fun _ _ _ _ h => h⟩, ⟨102, fun v _ => v = .pointer (some ⟨wr.heap.size, 1, none⟩), fun _ _ _ _ h => h⟩, ⟨103, fun v _ => v = .int .i64 r, fun _ _ _ _ h => h⟩, ⟨104, fun v w => ∃ b L, v = .map (some b) ∧ MapAt w b L ∧ GoodL prot r L ∧ HasT prot r L ∧ HasF prot r L, fun v w w' hR ⟨b, L, e, m, g, t, f⟩ => (hR.2 b L m g).elim fun L' h => ⟨b, L', e, h.1, h.2.1, h.2.2.1 t, h.2.2.2 f⟩⟩, ⟨105, fun v _ => v = .bool false, fun _ _ _ _ h => h⟩, ⟨106, fun v _ => v = .int .i64 r, fun _ _ _ _ h => h⟩, ⟨107, fun v _ => v = .bool false, fun _ _ _ _ h => h⟩, ⟨108, fun v _ => v = .bool false, fun _ _ _ _ h => h⟩, ⟨109, fun v _ => v = .bool false, fun _ _ _ _ h => h⟩, ⟨110, fun v _ => v = .int .i64 err2, fun _ _ _ _ h => h⟩, ⟨111, fun v _ => v = .bool false, fun _ _ _ _ h => h⟩, ⟨112, fun v _ => v = .bool false, fun _ _ _ _ h => h⟩, ⟨121, fun v _ => v = .bool false, fun _ _ _ _ h => h⟩, ⟨122, fun v _ => v = .bool false, fun _ _ _ _ h => h⟩] (MarkM prot r) depM _ (by kernel_rfl) rfl (by kernel_rfl) (by kernel_rfl) (RM.drew _ _ _ _) (fun _ _ _ h1 h2 => h1.trans h2) (fun i f f' w w' => MarkM.keep i f f' w w') (fun QQ => ⟨?_, ?_, ?_, ?_, ?_, ?_, ?_, ?_, ?_, ?_, ?_, ?_, ?_, ?_, ?_, ?_, ?_, ?_, ?_, ?_, ?_, ?_, ?_, ?_, ?_, ?_, ?_, ?_, ?_, ?_, ?_, ?_, ?_, trivial⟩) (fun f wy hR hf => ?_)
              · intro A wx hR hout hdep hmark K hK
                have h10 : A.tmps[10]?.getD undef = .int .i64 0 := hout 10 (by kernel_rfl)
                refine if_yes (by kernel_rfl) ?_
                simp [go_sem, h10, hq1, hq2, hq1', hq2', hv]
                exact hK.out _ _ (RM.refl _ _ _ _) rfl
              · intro A wx hR hout hdep hmark K hK
                have h92 : A.tmps[92]?.getD undef = .int .i64 0 := hdep 92 (by kernel_rfl)
                refine if_yes (by kernel_rfl) ?_
                simp [go_sem, h92, hq1, hq2, hq1', hq2', hv]
                exact hK.out _ _ (RM.refl _ _ _ _) rfl
              · intro A wx hR hout hdep hmark K hK
                have h93 : A.tmps[93]?.getD undef = .bool true := hdep 93 (by kernel_rfl)
                refine if_yes (by kernel_rfl) ?_
                simp [go_sem, h93, hq1, hq2, hq1', hq2', hv]
                exact hK.out _ _ (RM.refl _ _ _ _) rfl
              · intro A wx hR hout hdep hmark K hK
                have h9 : A.tmps[9]?.getD undef = .pointer (some ⟨w3.heap.size, 0, none⟩) := hout 9 (by kernel_rfl)
                have h94 : A.tmps[94]?.getD undef = .bool true := hdep 94 (by kernel_rfl)
                refine if_yes ((wanted_is (j := 2) (b := true) (by kernel_rfl) (by kernel_rfl) h94).trans rfl) ?_
                simp [go_sem, h9, hq1, hq2, hq1', hq2', hv]
                exact hK.out _ _ (RM.refl _ _ _ _) rfl
              · intro A wx hR hout hdep hmark K hK
                have h95 : A.tmps[95]?.getD undef = .pointer (some ⟨w3.heap.size, 0, none⟩) := hdep 95 (by kernel_rfl)
                have h94 : A.tmps[94]?.getD undef = .bool true := hdep 94 (by kernel_rfl)
                refine if_yes ((wanted_is (j := 2) (b := true) (by kernel_rfl) (by kernel_rfl) h94).trans rfl) ?_
                have l0 := keep_cell hR.1 l0
                have l1 := keep_cell hR.1 l1
                have d0 := keep_cell hR.1 d0
                have d1 := keep_cell hR.1 d1
                have d2 := keep_cell hR.1 d2
                have d3 := keep_cell hR.1 d3
                have g0 := keep_cell hR.1 g0
                have g1 := keep_cell hR.1 g1
                have g2 := keep_cell hR.1 g2
                have g3 := keep_cell hR.1 g3
                simp [go_sem, h95, l0, l1, d0, d1, d2, d3, g0, g1, g2, g3, hq1, hq2, hq1', hq2', hv]
                exact hK.out _ _ (RM.refl _ _ _ _) rfl
              · intro A wx hR hout hdep hmark K hK
                have h14 : A.tmps[14]?.getD undef = .pointer (some ⟨wr.heap.size, 0, none⟩) := hout 14 (by kernel_rfl)
                have h94 : A.tmps[94]?.getD undef = .bool true := hdep 94 (by kernel_rfl)
                refine if_yes ((wanted_is (j := 2) (b := true) (by kernel_rfl) (by kernel_rfl) h94).trans rfl) ?_
                simp [go_sem, h14, hq1, hq2, hq1', hq2', hv]
                exact hK.out _ _ (RM.refl _ _ _ _) rfl
              · intro A wx hR hout hdep hmark K hK
                have h97 : A.tmps[97]?.getD undef = .pointer (some ⟨wr.heap.size, 0, none⟩) := hdep 97 (by kernel_rfl)
                have h94 : A.tmps[94]?.getD undef = .bool true := hdep 94 (by kernel_rfl)
                refine if_yes ((wanted_is (j := 2) (b := true) (by kernel_rfl) (by kernel_rfl) h94).trans rfl) ?_
                have l0 := keep_cell hR.1 l0
                have l1 := keep_cell hR.1 l1
                have d0 := keep_cell hR.1 d0
                have d1 := keep_cell hR.1 d1
                have d2 := keep_cell hR.1 d2
                have d3 := keep_cell hR.1 d3
                have g0 := keep_cell hR.1 g0
                have g1 := keep_cell hR.1 g1
                have g2 := keep_cell hR.1 g2
                have g3 := keep_cell hR.1 g3
                simp [go_sem, h97, l0, l1, d0, d1, d2, d3, g0, g1, g2, g3, hq1, hq2, hq1', hq2', hv]
                exact hK.out _ _ (RM.refl _ _ _ _) rfl
              · intro A wx hR hout hdep hmark K hK
                have h96 : A.tmps[96]?.getD undef = .agg #[.slice x1 x2 x3, .slice x4 x5 x6, .int .u64 (bs : Int), .slice x7 s8 x9] := hdep 96 (by kernel_rfl)
                have h98 : A.tmps[98]?.getD undef = .int .u32 (p : Int) := hdep 98 (by kernel_rfl)
                have h94 : A.tmps[94]?.getD undef = .bool true := hdep 94 (by kernel_rfl)
                refine if_yes ((wanted_is (j := 2) (b := true) (by kernel_rfl) (by kernel_rfl) h94).trans rfl) ?_
                simp [go_sem, h96, h98, hq1, hq2, hq1', hq2', hv]
                refine (KPx.out p _ (below_tr hb9 (below_tr hbz hR.1))).mono ?_
                rintro e wG ⟨rfl, hbG⟩
                rw [hpx]
                exact hK.out _ _ (RM.of hbG hR.1.size) rfl
              · intro A wx hR hout hdep hmark K hK
                have h94 : A.tmps[94]?.getD undef = .bool true := hdep 94 (by kernel_rfl)
                refine if_yes ((wanted_is (j := 2) (b := true) (by kernel_rfl) (by kernel_rfl) h94).trans rfl) ?_
                have hmm := @run_makeMap Tryz.prog 55 wx
                simp [go_sem, hmm]
                exact hK.out _ _ (RM.of ((Below.refl _ _).alloc (Nat.le_refl _) _) hR.1.size) ⟨_, [], rfl, hR.1.size, map_made prot r wx, .inl rfl⟩
              · intro A wx hR hout hdep hmark K hK
                have h3 : A.tmps[3]?.getD undef = .int .i64 prot := hout 3 (by kernel_rfl)
                have h94 : A.tmps[94]?.getD undef = .bool true := hdep 94 (by kernel_rfl)
                refine if_yes ((wanted_is (j := 2) (b := true) (by kernel_rfl) (by kernel_rfl) h94).trans rfl) ?_
                simp [go_sem, h3, hq1, hq2, hq1', hq2', hv]
                exact hK.out _ _ (RM.refl _ _ _ _) rfl
              · intro A wx hR hout hdep hmark K hK
                have h100 := hdep 100 (by kernel_rfl)
                have h101 : A.tmps[101]?.getD undef = .int .i64 prot := hdep 101 (by kernel_rfl)
                have h94 : A.tmps[94]?.getD undef = .bool true := hdep 94 (by kernel_rfl)
                refine if_yes ((wanted_is (j := 2) (b := true) (by kernel_rfl) (by kernel_rfl) h94).trans rfl) ?_
                obtain ⟨b0, L0, hv100, hBb, hMp, hG⟩ := h100
                obtain ⟨w', hrun, hRM, L', m', g', t', f'⟩ := map_ins (B := W6.heap.size) hMp hG hBb true prot rfl HPW.out
                simp [go_sem, hv100, h101, hrun]
                exact hK.out undef _ hRM ⟨fun _ => ⟨b0, L', (by show A.tmps.getD 100 undef = _; rw [Array.getD_eq_getD_getElem?]; exact hv100), m', g', t' rfl⟩, fun h => by cases h⟩
              · intro A wx hR hout hdep hmark K hK
                have h14 : A.tmps[14]?.getD undef = .pointer (some ⟨wr.heap.size, 0, none⟩) := hout 14 (by kernel_rfl)
                have h94 : A.tmps[94]?.getD undef = .bool true := hdep 94 (by kernel_rfl)
                refine if_yes ((wanted_is (j := 2) (b := true) (by kernel_rfl) (by kernel_rfl) h94).trans rfl) ?_
                simp [go_sem, h14, hq1, hq2, hq1', hq2', hv]
                exact hK.out _ _ (RM.refl _ _ _ _) rfl
              · intro A wx hR hout hdep hmark K hK
                have h102 : A.tmps[102]?.getD undef = .pointer (some ⟨wr.heap.size, 1, none⟩) := hdep 102 (by kernel_rfl)
                have h94 : A.tmps[94]?.getD undef = .bool true := hdep 94 (by kernel_rfl)
                refine if_yes ((wanted_is (j := 2) (b := true) (by kernel_rfl) (by kernel_rfl) h94).trans rfl) ?_
                have l0 := keep_cell hR.1 l0
                have l1 := keep_cell hR.1 l1
                have d0 := keep_cell hR.1 d0
                have d1 := keep_cell hR.1 d1
                have d2 := keep_cell hR.1 d2
                have d3 := keep_cell hR.1 d3
                have g0 := keep_cell hR.1 g0
                have g1 := keep_cell hR.1 g1
                have g2 := keep_cell hR.1 g2
                have g3 := keep_cell hR.1 g3
                simp [go_sem, h102, l0, l1, d0, d1, d2, d3, g0, g1, g2, g3, hq1, hq2, hq1', hq2', hv]
                exact hK.out _ _ (RM.refl _ _ _ _) rfl
              · intro A wx hR hout hdep hmark K hK
                have h100 := hdep 100 (by kernel_rfl)
                have h103 : A.tmps[103]?.getD undef = .int .i64 r := hdep 103 (by kernel_rfl)
                have h94 : A.tmps[94]?.getD undef = .bool true := hdep 94 (by kernel_rfl)
                refine if_yes ((wanted_is (j := 2) (b := true) (by kernel_rfl) (by kernel_rfl) h94).trans rfl) ?_
                obtain ⟨b0, L0, hv100, hBb, hMp, hG⟩ := h100
                obtain ⟨w', hrun, hRM, L', m', g', t', f'⟩ := map_ins (B := W6.heap.size) hMp hG hBb false r rfl hwr
                simp [go_sem, hv100, h103, hrun]
                exact hK.out undef _ hRM ⟨fun h => (by cases h), fun _ => ⟨b0, L', (by show A.tmps.getD 100 undef = _; rw [Array.getD_eq_getD_getElem?]; exact hv100), m', g', f' rfl⟩⟩
              · intro A wx hR hout hdep hmark K hK
                have h100 := hdep 100 (by kernel_rfl)
                have h94 : A.tmps[94]?.getD undef = .bool true := hdep 94 (by kernel_rfl)
                refine if_yes ((wanted_is (j := 2) (b := true) (by kernel_rfl) (by kernel_rfl) h94).trans rfl) ?_
                obtain ⟨b0, L0, hv100, hBb, hMp, hG⟩ := h100
                obtain ⟨b1, L1, e1, m1, g1, t1⟩ := (hmark 10 (by kernel_rfl)).1 rfl
                obtain ⟨b2, L2, e2, m2, g2, t2⟩ := (hmark 13 (by kernel_rfl)).2 rfl
                have e1' : A.tmps.getD 100 undef = .map (some b1) := e1
                have e2' : A.tmps.getD 100 undef = .map (some b2) := e2
                rw [Array.getD_eq_getD_getElem?, hv100] at e1' e2'
                cases e1'
                cases e2'
                obtain rfl := hMp.one m1
                obtain rfl := hMp.one m2
                simp [go_sem, hv100]
                exact hK.out _ _ (RM.refl _ _ _ _) ⟨b0, L0, rfl, hMp, hG, t1, t2⟩
              · intro A wx hR hout hdep hmark K hK
                have h15 : A.tmps[15]?.getD undef = .bool false := hout 15 (by kernel_rfl)
                have h94 : A.tmps[94]?.getD undef = .bool true := hdep 94 (by kernel_rfl)
                refine if_yes ((wanted_is (j := 2) (b := true) (by kernel_rfl) (by kernel_rfl) h94).trans rfl) ?_
                simp [go_sem, h15, hq1, hq2, hq1', hq2', hv]
                exact hK.out _ _ (RM.refl _ _ _ _) rfl
              · intro A wx hR hout hdep hmark K hK
                have h104 := hdep 104 (by kernel_rfl)
                have h105 : A.tmps[105]?.getD undef = .bool false := hdep 105 (by kernel_rfl)
                have h94 : A.tmps[94]?.getD undef = .bool true := hdep 94 (by kernel_rfl)
                refine if_yes ((wanted_is (j := 2) (b := true) (by kernel_rfl) (by kernel_rfl) h94).trans rfl) ?_
                obtain ⟨b0, L0, hv104, m1, g1, t1, f1⟩ := h104
                have hrun := map_look m1 t1 f1 false
                simp only [if_true, Bool.false_eq_true, if_false] at hrun
                simp [go_sem, hv104, h105, hrun]
                exact hK.out _ _ (RM.refl _ _ _ _) rfl
              · intro A wx hR hout hdep hmark K hK
                have h99 : A.tmps[99]?.getD undef = .int .i64 r := hdep 99 (by kernel_rfl)
                have h106 : A.tmps[106]?.getD undef = .int .i64 r := hdep 106 (by kernel_rfl)
                have h94 : A.tmps[94]?.getD undef = .bool true := hdep 94 (by kernel_rfl)
                refine if_yes ((wanted_is (j := 2) (b := true) (by kernel_rfl) (by kernel_rfl) h94).trans rfl) ?_
                simp [go_sem, h99, h106, hq1, hq2, hq1', hq2', hv]
                exact hK.out _ _ (RM.refl _ _ _ _) rfl
              · intro A wx hR hout hdep hmark K hK
                have h94 : A.tmps[94]?.getD undef = .bool true := hdep 94 (by kernel_rfl)
                have h107 : A.tmps[107]?.getD undef = .bool false := hdep 107 (by kernel_rfl)
                refine if_yes (by kernel_rfl) ?_
                simp [go_sem, h94, h107, hq1, hq2, hq1', hq2', hv]
                exact hK.out _ _ (RM.refl _ _ _ _) rfl
              · intro A wx hR hout hdep hmark K hK
                have h108 : A.tmps[108]?.getD undef = .bool false := hdep 108 (by kernel_rfl)
                refine if_yes (by kernel_rfl) ?_
                simp [go_sem, h108, hq1, hq2, hq1', hq2', hv]
                exact hK.out _ _ (RM.refl _ _ _ _) rfl
              · intro A wx hR hout hdep hmark K hK
                have h12 : A.tmps[12]?.getD undef = .int .i64 err2 := hout 12 (by kernel_rfl)
                have h109 : A.tmps[109]?.getD undef = .bool false := hdep 109 (by kernel_rfl)
                refine if_yes ((wanted_is (j := 19) (b := false) (by kernel_rfl) (by kernel_rfl) h109).trans rfl) ?_
                simp [go_sem, h12, hq1, hq2, hq1', hq2', hv]
                exact hK.out _ _ (RM.refl _ _ _ _) rfl
              · intro A wx hR hout hdep hmark K hK
                have h110 : A.tmps[110]?.getD undef = .int .i64 err2 := hdep 110 (by kernel_rfl)
                have h109 : A.tmps[109]?.getD undef = .bool false := hdep 109 (by kernel_rfl)
                refine if_yes ((wanted_is (j := 19) (b := false) (by kernel_rfl) (by kernel_rfl) h109).trans rfl) ?_
                simp [go_sem, h110, hq1, hq2, hq1', hq2', hv]
                exact hK.out _ _ (RM.refl _ _ _ _) rfl
              · intro A wx hR hout hdep hmark K hK
                have h111 : A.tmps[111]?.getD undef = .bool false := hdep 111 (by kernel_rfl)
                have h109 : A.tmps[109]?.getD undef = .bool false := hdep 109 (by kernel_rfl)
                refine if_yes ((wanted_is (j := 19) (b := false) (by kernel_rfl) (by kernel_rfl) h109).trans rfl) ?_
                simp [go_sem, h111, hq1, hq2, hq1', hq2', hv]
                exact hK.out _ _ (RM.refl _ _ _ _) rfl
              · intro A wx hR hout hdep hmark K hK
                have h11 : A.tmps[11]?.getD undef = .pointer (some ⟨w4.heap.size, 0, none⟩) := hout 11 (by kernel_rfl)
                have h112 : A.tmps[112]?.getD undef = .bool false := hdep 112 (by kernel_rfl)
                refine if_not (by rw [wanted_is (j := 22) (b := true) (by kernel_rfl) (by kernel_rfl) h112]; decide) ?_
                exact hK.out _ _ (RM.refl _ _ _ _) trivial
              · intro A wx hR hout hdep hmark K hK
                have h112 : A.tmps[112]?.getD undef = .bool false := hdep 112 (by kernel_rfl)
                refine if_not (by rw [wanted_is (j := 22) (b := true) (by kernel_rfl) (by kernel_rfl) h112]; decide) ?_
                exact hK.out _ _ (RM.refl _ _ _ _) trivial
              · intro A wx hR hout hdep hmark K hK
                have h14 : A.tmps[14]?.getD undef = .pointer (some ⟨wr.heap.size, 0, none⟩) := hout 14 (by kernel_rfl)
                have h112 : A.tmps[112]?.getD undef = .bool false := hdep 112 (by kernel_rfl)
                refine if_not (by rw [wanted_is (j := 22) (b := true) (by kernel_rfl) (by kernel_rfl) h112]; decide) ?_
                exact hK.out _ _ (RM.refl _ _ _ _) trivial
              · intro A wx hR hout hdep hmark K hK
                have h112 : A.tmps[112]?.getD undef = .bool false := hdep 112 (by kernel_rfl)
                refine if_not (by rw [wanted_is (j := 22) (b := true) (by kernel_rfl) (by kernel_rfl) h112]; decide) ?_
                exact hK.out _ _ (RM.refl _ _ _ _) trivial
              · intro A wx hR hout hdep hmark K hK
                have h112 : A.tmps[112]?.getD undef = .bool false := hdep 112 (by kernel_rfl)
                refine if_not (by rw [wanted_is (j := 22) (b := true) (by kernel_rfl) (by kernel_rfl) h112]; decide) ?_
                exact hK.out _ _ (RM.refl _ _ _ _) trivial
              · intro A wx hR hout hdep hmark K hK
                have h112 : A.tmps[112]?.getD undef = .bool false := hdep 112 (by kernel_rfl)
                refine if_not (by rw [wanted_is (j := 22) (b := true) (by kernel_rfl) (by kernel_rfl) h112]; decide) ?_
                exact hK.out _ _ (RM.refl _ _ _ _) trivial
              · intro A wx hR hout hdep hmark K hK
                have h15 : A.tmps[15]?.getD undef = .bool false := hout 15 (by kernel_rfl)
                have h112 : A.tmps[112]?.getD undef = .bool false := hdep 112 (by kernel_rfl)
                refine if_not (by rw [wanted_is (j := 22) (b := true) (by kernel_rfl) (by kernel_rfl) h112]; decide) ?_
                exact hK.out _ _ (RM.refl _ _ _ _) trivial
              · intro A wx hR hout hdep hmark K hK
                have h112 : A.tmps[112]?.getD undef = .bool false := hdep 112 (by kernel_rfl)
                refine if_not (by rw [wanted_is (j := 22) (b := true) (by kernel_rfl) (by kernel_rfl) h112]; decide) ?_
                exact hK.out _ _ (RM.refl _ _ _ _) trivial
              · intro A wx hR hout hdep hmark K hK
                have h112 : A.tmps[112]?.getD undef = .bool false := hdep 112 (by kernel_rfl)
                have h109 : A.tmps[109]?.getD undef = .bool false := hdep 109 (by kernel_rfl)
                refine if_yes ((wanted_is (j := 19) (b := false) (by kernel_rfl) (by kernel_rfl) h109).trans rfl) ?_
                simp [go_sem, h112, hq1, hq2, hq1', hq2', hv]
                exact hK.out _ _ (RM.refl _ _ _ _) rfl
              · intro A wx hR hout hdep hmark K hK
                have h109 : A.tmps[109]?.getD undef = .bool false := hdep 109 (by kernel_rfl)
                have h121 : A.tmps[121]?.getD undef = .bool false := hdep 121 (by kernel_rfl)
                refine if_yes (by kernel_rfl) ?_
                simp [go_sem, h109, h121, hq1, hq2, hq1', hq2', hv]
                exact hK.out _ _ (RM.refl _ _ _ _) rfl
              simp only [putSl, Act.put, List.setIfInBounds_toArray, List.set_cons_zero, List.set_cons_succ]
              have hz : f 122 = .bool false := hf 122 (by kernel_rfl)
              rw [hz]
              have hbz := below_tr hbz hR.1
              clear hf hz
              go_wp2
              go_roundw
              case rel => exact ⟨k + 1, by omega, by go_num, hbz⟩
              case measure => simp [intOf]; omega
        · obtain rfl : k = s8 := by omega
          have HB : Hid (Below w.heap.size w wr) := below_tr HB.out hbr
          clear hbr HX BSr BXr BYr
          go_wp2_with fail
          refine (awake10 wr).mono ?_
          rintro e wz ⟨rfl, hbz⟩
          have HBz : Hid (Below w.heap.size w wz) := below_tr HB.out hbz
          go_wp2
          go_ret
          exact ⟨rfl, HBz.out⟩
  · by_cases h2 : err2 = 0
    · skip
      have hq1 : (err1 != 0) = true := by simp [h1]
      have hq1' : (err1 == 0) = false := by simp [h1]
      go_wp2_with fail
      refine (K19x.out h1 _ hb9).mono ?_
      rintro e w5 ⟨rfl, hbq⟩
      have BS := BS.keep hbq
      have BX := BX.keep hbq
      have BY := BY.keep hbq
      have HB : Hid (Below w.heap.size w w5) := below_tr HB.out hbq
      have HSL : Hid (SlG w5 (.slice s1 s2 s3) (.slice s4 s5 s6) (.slice s7 s8 s9) ms cs ps) := HSL.out.keep hbq
      have hb9 := below_tr hb9 hbq
      obtain ⟨c0, c1, c2, c3, c4, c5⟩ := BS.cells
      obtain ⟨d0, d1, d2, d3, d4, d5⟩ := BX.cells
      obtain ⟨g0, g1, g2, g3, g4, g5⟩ := BY.cells
      clear hbq
      have hq2 : True := trivial
      have hq2' : True := trivial
      subst h2
      have HPY0 : Hid (∀ x ∈ ps, protN ps2 x.1 = if inR a n x.1 = true then -1 else x.2) := HPY.out rfl
      clear hXb hX4 i0 i1 i2 i3 i4 i5 j0 j1 j2 j3 j4 j5
      obtain ⟨W5, rfl⟩ : ∃ z, z = w5 := ⟨_, rfl⟩
      have HX : Hid (∀ i (h : i < ps.length), ∃ b o, s7 = some ⟨b, o, none⟩ ∧ W5.cell? ⟨b, o + i * 2, none⟩ = some (.int .u32 (ps[i].1 : Int)) ∧ W5.cell? ⟨b, o + i * 2 + 1, none⟩ = some (.int .i64 ps[i].2)) := by
        obtain ⟨ao, cap, e, _, _, _, g⟩ := HSL.out.2.2
        cases e
        exact g
      go_wp2
      go_loopw [73] (fun i wr => ∃ k : Nat, k ≤ s8 ∧ i = .int .i64 (k : Int) ∧ Below W5.heap.size W5 wr) (fun i _ => s8 - (intOf i).toNat)
      case atStart => exact ⟨0, Nat.zero_le _, rfl, Below.refl _ _⟩
      case round =>
        obtain ⟨k, hk, rfl, hbr⟩ := hrel
        have BSr := BS.keep hbr
        have BXr := BX.keep hbr
        have BYr := BY.keep hbr
        obtain ⟨c0, c1, c2, c3, c4, c5⟩ := BSr.cells
        obtain ⟨d0, d1, d2, d3, d4, d5⟩ := BXr.cells
        obtain ⟨g0, g1, g2, g3, g4, g5⟩ := BYr.cells
        by_cases hkl : k < s8
        · obtain ⟨b, o, rfl, q0, q1⟩ := HX.out k (by rw [← HS8.out]; exact hkl)
          have e0' := keep_cell hbr q0
          have e1' := keep_cell hbr q1
          have hmem := List.getElem_mem (by rw [← HS8.out]; exact hkl : k < ps.length)
          have hr0 := (HQ.out.1.pg _ hmem).2.1
          have hp0 := (HQ.out.1.pg _ hmem).1
          have hr7 := (HQ.out.1.pg _ hmem).2.2.1
          have hpy := HPY0.out _ hmem
          generalize ps[k].1 = p at e0' hp0 hpy 
          generalize ps[k].2 = r at e1' hr0 hr7 hpy 
          have hwr : (Lit.int .i64 r).wf = true := by simp [Lit.wf, IntKind.min, IntKind.max, IntKind.signed, IntKind.bits]; omega
          clear q0 q1 hmem
          obtain ⟨W5', hW5', hb5, hsz5, l0, l1, _, _⟩ := box2 wr (.int .u32 (p : Int)) (.int .i64 r) 53
          have d0 := keep_cell hb5 d0
          have d1 := keep_cell hb5 d1
          have d2 := keep_cell hb5 d2
          have d3 := keep_cell hb5 d3
          have g0 := keep_cell hb5 g0
          have g1 := keep_cell hb5 g1
          have g2 := keep_cell hb5 g2
          have g3 := keep_cell hb5 g3
          clear BSr BXr BYr c0 c1 c2 c3 c4 c5 d4 d5 g4 g5
          by_cases hpf : p < fp
          · have hd1 : decide ((fp : Int) ≤ (p : Int)) = false := by simp; omega
            have hd2 : (fp ≤ p) = False := by simp; omega
            have t1 : True := trivial
            have t2 : True := trivial
            have hi : inR a n p = false := by unfold inR; rw [← HFP.out]; simp; omega
            rw [hi] at hpy
            obtain ⟨vy, hvy⟩ : ∃ z, z = r := ⟨_, rfl⟩
            rw [if_neg (by decide), ← hvy] at hpy
            have hv : ((0 : Int) ≤ vy) = True := by simp; omega
            clear hvy
            clear hi
            clear hpf
            go_wp2
            refine wp_region_slots (R := Ext) [⟨77, fun v _ => v = .pointer (some ⟨wr.heap.size, 0, none⟩), fun _ _ _ _ h => h⟩, ⟨78, fun v _ => v = .int .u32 (p : Int), fun _ _ _ _ h => h⟩, ⟨79, fun v _ => v = .int .u32 (a : Int), fun _ _ _ _ h => h⟩, ⟨80, fun v _ => v = .int .u32 (fp : Int), fun _ _ _ _ h => h⟩, ⟨81, fun v _ => v = .bool false, fun _ _ _ _ h => h⟩, ⟨82, fun v _ => v = .bool false, fun _ _ _ _ h => h⟩, ⟨91, fun v _ => v = .bool false, fun _ _ _ _ h => h⟩, ⟨15, fun v _ => v = .bool false, fun _ _ _ _ h => h⟩] _ (by kernel_rfl) rfl (by kernel_rfl) (Below.drew (Below.refl _ _)) (fun _ _ _ h1 h2 => below_tr h1 h2) (fun QQ => ⟨?_, ?_, ?_, ?_, ?_, ?_, ?_, ?_, ?_, ?_, ?_, ?_, ?_, ?_, ?_, ?_, trivial⟩) (fun f wy hR hf => ?_)
            · intro A wx hR hout hdep K hK
              have h14 : A.tmps[14]?.getD undef = .pointer (some ⟨wr.heap.size, 0, none⟩) := hout 14 (by kernel_rfl)
              refine if_yes (by kernel_rfl) ?_
              simp [go_sem, h14, hd1, hd2, t1, t2, z1, z2, z2', z3]
              exact hK.out _ _ (Below.refl _ _) rfl
            · intro A wx hR hout hdep K hK
              have h77 : A.tmps[77]?.getD undef = .pointer (some ⟨wr.heap.size, 0, none⟩) := hdep 77 (by kernel_rfl)
              refine if_yes (by kernel_rfl) ?_
              have l0 := keep_cell hR l0
              have l1 := keep_cell hR l1
              simp [go_sem, h77, l0, l1, hd1, hd2, t1, t2, z1, z2, z2', z3]
              exact hK.out _ _ (Below.refl _ _) rfl
            · intro A wx hR hout hdep K hK
              have h1 : A.tmps[1]?.getD undef = .int .u32 (a : Int) := hout 1 (by kernel_rfl)
              refine if_yes (by kernel_rfl) ?_
              simp [go_sem, h1, hd1, hd2, t1, t2, z1, z2, z2', z3]
              exact hK.out _ _ (Below.refl _ _) rfl
            · intro A wx hR hout hdep K hK
              have h79 : A.tmps[79]?.getD undef = .int .u32 (a : Int) := hdep 79 (by kernel_rfl)
              refine if_yes (by kernel_rfl) ?_
              simp [go_sem, h79, hd1, hd2, t1, t2, z1, z2, z2', z3]
              exact hK.out _ _ (Below.refl _ _) rfl
            · intro A wx hR hout hdep K hK
              have h78 : A.tmps[78]?.getD undef = .int .u32 (p : Int) := hdep 78 (by kernel_rfl)
              have h80 : A.tmps[80]?.getD undef = .int .u32 (fp : Int) := hdep 80 (by kernel_rfl)
              refine if_yes (by kernel_rfl) ?_
              simp [go_sem, h78, h80, hd1, hd2, t1, t2, z1, z2, z2', z3]
              exact hK.out _ _ (Below.refl _ _) rfl
            · intro A wx hR hout hdep K hK
              have h81 : A.tmps[81]?.getD undef = .bool false := hdep 81 (by kernel_rfl)
              refine if_yes (by kernel_rfl) ?_
              simp [go_sem, h81, hd1, hd2, t1, t2, z1, z2, z2', z3]
              exact hK.out _ _ (Below.refl _ _) rfl
            · intro A wx hR hout hdep K hK
              have h14 : A.tmps[14]?.getD undef = .pointer (some ⟨wr.heap.size, 0, none⟩) := hout 14 (by kernel_rfl)
              have h82 : A.tmps[82]?.getD undef = .bool false := hdep 82 (by kernel_rfl)
              refine if_not (by rw [wanted_is (j := 5) (b := true) (by kernel_rfl) (by kernel_rfl) h82]; decide) ?_
              exact hK.out _ _ (Below.refl _ _) trivial
            · intro A wx hR hout hdep K hK
              have h82 : A.tmps[82]?.getD undef = .bool false := hdep 82 (by kernel_rfl)
              refine if_not (by rw [wanted_is (j := 5) (b := true) (by kernel_rfl) (by kernel_rfl) h82]; decide) ?_
              exact hK.out _ _ (Below.refl _ _) trivial
            · intro A wx hR hout hdep K hK
              have h1 : A.tmps[1]?.getD undef = .int .u32 (a : Int) := hout 1 (by kernel_rfl)
              have h82 : A.tmps[82]?.getD undef = .bool false := hdep 82 (by kernel_rfl)
              refine if_not (by rw [wanted_is (j := 5) (b := true) (by kernel_rfl) (by kernel_rfl) h82]; decide) ?_
              exact hK.out _ _ (Below.refl _ _) trivial
            · intro A wx hR hout hdep K hK
              have h82 : A.tmps[82]?.getD undef = .bool false := hdep 82 (by kernel_rfl)
              refine if_not (by rw [wanted_is (j := 5) (b := true) (by kernel_rfl) (by kernel_rfl) h82]; decide) ?_
              exact hK.out _ _ (Below.refl _ _) trivial
            · intro A wx hR hout hdep K hK
              have h82 : A.tmps[82]?.getD undef = .bool false := hdep 82 (by kernel_rfl)
              refine if_not (by rw [wanted_is (j := 5) (b := true) (by kernel_rfl) (by kernel_rfl) h82]; decide) ?_
              exact hK.out _ _ (Below.refl _ _) trivial
            · intro A wx hR hout hdep K hK
              have h2 : A.tmps[2]?.getD undef = .int .u32 (n : Int) := hout 2 (by kernel_rfl)
              have h82 : A.tmps[82]?.getD undef = .bool false := hdep 82 (by kernel_rfl)
              refine if_not (by rw [wanted_is (j := 5) (b := true) (by kernel_rfl) (by kernel_rfl) h82]; decide) ?_
              exact hK.out _ _ (Below.refl _ _) trivial
            · intro A wx hR hout hdep K hK
              have h82 : A.tmps[82]?.getD undef = .bool false := hdep 82 (by kernel_rfl)
              refine if_not (by rw [wanted_is (j := 5) (b := true) (by kernel_rfl) (by kernel_rfl) h82]; decide) ?_
              exact hK.out _ _ (Below.refl _ _) trivial
            · intro A wx hR hout hdep K hK
              have h82 : A.tmps[82]?.getD undef = .bool false := hdep 82 (by kernel_rfl)
              refine if_not (by rw [wanted_is (j := 5) (b := true) (by kernel_rfl) (by kernel_rfl) h82]; decide) ?_
              exact hK.out _ _ (Below.refl _ _) trivial
            · intro A wx hR hout hdep K hK
              have h82 : A.tmps[82]?.getD undef = .bool false := hdep 82 (by kernel_rfl)
              refine if_yes (by kernel_rfl) ?_
              simp [go_sem, h82, hd1, hd2, t1, t2, z1, z2, z2', z3]
              exact hK.out _ _ (Below.refl _ _) rfl
            · intro A wx hR hout hdep K hK
              have h91 : A.tmps[91]?.getD undef = .bool false := hdep 91 (by kernel_rfl)
              refine if_yes (by kernel_rfl) ?_
              simp [go_sem, h91, hd1, hd2, t1, t2, z1, z2, z2', z3]
              exact hK.out _ _ (Below.refl _ _) rfl
            simp only [putSl, Act.put, List.setIfInBounds_toArray, List.set_cons_zero, List.set_cons_succ]
            have hz : f 15 = .bool false := hf 15 (by kernel_rfl)
            rw [hz]
            have hbz := below_tr (below_tr hbr hb5) hR
            have l0 := keep_cell hR l0
            have l1 := keep_cell hR l1
            have d0 := keep_cell hR d0
            have d1 := keep_cell hR d1
            have d2 := keep_cell hR d2
            have d3 := keep_cell hR d3
            have g0 := keep_cell hR g0
            have g1 := keep_cell hR g1
            have g2 := keep_cell hR g2
            have g3 := keep_cell hR g3
            clear hf hz hR
            obtain ⟨W6, rfl⟩ : ∃ z, z = wy := ⟨_, rfl⟩
            go_wp2
            refine wp_region_slots (R := Ext) [⟨92, fun v _ => v = .int .i64 err1, fun _ _ _ _ h => h⟩, ⟨93, fun v _ => v = .bool false, fun _ _ _ _ h => h⟩, ⟨94, fun v _ => v = .bool false, fun _ _ _ _ h => h⟩, ⟨108, fun v _ => v = .bool false, fun _ _ _ _ h => h⟩, ⟨109, fun v _ => v = .bool false, fun _ _ _ _ h => h⟩, ⟨110, fun v _ => v = .int .i64 0, fun _ _ _ _ h => h⟩, ⟨111, fun v _ => v = .bool true, fun _ _ _ _ h => h⟩, ⟨112, fun v _ => v = .bool true, fun _ _ _ _ h => h⟩, ⟨113, fun v _ => v = .pointer (some ⟨w4.heap.size, 0, none⟩), fun _ _ _ _ h => h⟩, ⟨114, fun v _ => v = .agg #[.slice y1 y2 y3, .slice y4 y5 y6, .int .u64 (bs : Int), .slice y7 y8 y9], fun _ _ _ _ h => h⟩, ⟨115, fun v _ => v = .pointer (some ⟨wr.heap.size, 0, none⟩), fun _ _ _ _ h => h⟩, ⟨116, fun v _ => v = .int .u32 (p : Int), fun _ _ _ _ h => h⟩, ⟨117, fun v _ => v = .int .i64 vy, fun _ _ _ _ h => h⟩, ⟨118, fun v _ => v = .bool true, fun _ _ _ _ h => h⟩, ⟨119, fun v _ => v = .bool false, fun _ _ _ _ h => h⟩, ⟨120, fun v _ => v = .bool false, fun _ _ _ _ h => h⟩, ⟨121, fun v _ => v = .bool false, fun _ _ _ _ h => h⟩, ⟨122, fun v _ => v = .bool false, fun _ _ _ _ h => h⟩] _ (by kernel_rfl) rfl (by kernel_rfl) (Below.drew (Below.refl _ _)) (fun _ _ _ h1 h2 => below_tr h1 h2) (fun QQ => ⟨?_, ?_, ?_, ?_, ?_, ?_, ?_, ?_, ?_, ?_, ?_, ?_, ?_, ?_, ?_, ?_, ?_, ?_, ?_, ?_, ?_, ?_, ?_, ?_, ?_, ?_, ?_, ?_, ?_, ?_, ?_, ?_, ?_, trivial⟩) (fun f wy hR hf => ?_)
            · intro A wx hR hout hdep K hK
              have h10 : A.tmps[10]?.getD undef = .int .i64 err1 := hout 10 (by kernel_rfl)
              refine if_yes (by kernel_rfl) ?_
              simp [go_sem, h10, hq1, hq2, hq1', hq2', hv]
              exact hK.out _ _ (Below.refl _ _) rfl
            · intro A wx hR hout hdep K hK
              have h92 : A.tmps[92]?.getD undef = .int .i64 err1 := hdep 92 (by kernel_rfl)
              refine if_yes (by kernel_rfl) ?_
              simp [go_sem, h92, hq1, hq2, hq1', hq2', hv]
              exact hK.out _ _ (Below.refl _ _) rfl
            · intro A wx hR hout hdep K hK
              have h93 : A.tmps[93]?.getD undef = .bool false := hdep 93 (by kernel_rfl)
              refine if_yes (by kernel_rfl) ?_
              simp [go_sem, h93, hq1, hq2, hq1', hq2', hv]
              exact hK.out _ _ (Below.refl _ _) rfl
            · intro A wx hR hout hdep K hK
              have h9 : A.tmps[9]?.getD undef = .pointer (some ⟨w3.heap.size, 0, none⟩) := hout 9 (by kernel_rfl)
              have h94 : A.tmps[94]?.getD undef = .bool false := hdep 94 (by kernel_rfl)
              refine if_not (by rw [wanted_is (j := 2) (b := true) (by kernel_rfl) (by kernel_rfl) h94]; decide) ?_
              exact hK.out _ _ (Below.refl _ _) trivial
            · intro A wx hR hout hdep K hK
              have h94 : A.tmps[94]?.getD undef = .bool false := hdep 94 (by kernel_rfl)
              refine if_not (by rw [wanted_is (j := 2) (b := true) (by kernel_rfl) (by kernel_rfl) h94]; decide) ?_
              exact hK.out _ _ (Below.refl _ _) trivial
            · intro A wx hR hout hdep K hK
              have h14 : A.tmps[14]?.getD undef = .pointer (some ⟨wr.heap.size, 0, none⟩) := hout 14 (by kernel_rfl)
              have h94 : A.tmps[94]?.getD undef = .bool false := hdep 94 (by kernel_rfl)
              refine if_not (by rw [wanted_is (j := 2) (b := true) (by kernel_rfl) (by kernel_rfl) h94]; decide) ?_
              exact hK.out _ _ (Below.refl _ _) trivial
            · intro A wx hR hout hdep K hK
              have h94 : A.tmps[94]?.getD undef = .bool false := hdep 94 (by kernel_rfl)
              refine if_not (by rw [wanted_is (j := 2) (b := true) (by kernel_rfl) (by kernel_rfl) h94]; decide) ?_
              exact hK.out _ _ (Below.refl _ _) trivial
            · intro A wx hR hout hdep K hK
              have h94 : A.tmps[94]?.getD undef = .bool false := hdep 94 (by kernel_rfl)
              refine if_not (by rw [wanted_is (j := 2) (b := true) (by kernel_rfl) (by kernel_rfl) h94]; decide) ?_
              exact hK.out _ _ (Below.refl _ _) trivial
            · intro A wx hR hout hdep K hK
              have h94 : A.tmps[94]?.getD undef = .bool false := hdep 94 (by kernel_rfl)
              refine if_not (by rw [wanted_is (j := 2) (b := true) (by kernel_rfl) (by kernel_rfl) h94]; decide) ?_
              exact hK.out _ _ (Below.refl _ _) trivial
            · intro A wx hR hout hdep K hK
              have h3 : A.tmps[3]?.getD undef = .int .i64 prot := hout 3 (by kernel_rfl)
              have h94 : A.tmps[94]?.getD undef = .bool false := hdep 94 (by kernel_rfl)
              refine if_not (by rw [wanted_is (j := 2) (b := true) (by kernel_rfl) (by kernel_rfl) h94]; decide) ?_
              exact hK.out _ _ (Below.refl _ _) trivial
            · intro A wx hR hout hdep K hK
              have h94 : A.tmps[94]?.getD undef = .bool false := hdep 94 (by kernel_rfl)
              refine if_not (by rw [wanted_is (j := 2) (b := true) (by kernel_rfl) (by kernel_rfl) h94]; decide) ?_
              exact hK.out _ _ (Below.refl _ _) trivial
            · intro A wx hR hout hdep K hK
              have h14 : A.tmps[14]?.getD undef = .pointer (some ⟨wr.heap.size, 0, none⟩) := hout 14 (by kernel_rfl)
              have h94 : A.tmps[94]?.getD undef = .bool false := hdep 94 (by kernel_rfl)
              refine if_not (by rw [wanted_is (j := 2) (b := true) (by kernel_rfl) (by kernel_rfl) h94]; decide) ?_
              exact hK.out _ _ (Below.refl _ _) trivial
            · intro A wx hR hout hdep K hK
              have h94 : A.tmps[94]?.getD undef = .bool false := hdep 94 (by kernel_rfl)
              refine if_not (by rw [wanted_is (j := 2) (b := true) (by kernel_rfl) (by kernel_rfl) h94]; decide) ?_
              exact hK.out _ _ (Below.refl _ _) trivial
            · intro A wx hR hout hdep K hK
              have h94 : A.tmps[94]?.getD undef = .bool false := hdep 94 (by kernel_rfl)
              refine if_not (by rw [wanted_is (j := 2) (b := true) (by kernel_rfl) (by kernel_rfl) h94]; decide) ?_
              exact hK.out _ _ (Below.refl _ _) trivial
            · intro A wx hR hout hdep K hK
              have h94 : A.tmps[94]?.getD undef = .bool false := hdep 94 (by kernel_rfl)
              refine if_not (by rw [wanted_is (j := 2) (b := true) (by kernel_rfl) (by kernel_rfl) h94]; decide) ?_
              exact hK.out _ _ (Below.refl _ _) trivial
            · intro A wx hR hout hdep K hK
              have h15 : A.tmps[15]?.getD undef = .bool false := hout 15 (by kernel_rfl)
              have h94 : A.tmps[94]?.getD undef = .bool false := hdep 94 (by kernel_rfl)
              refine if_not (by rw [wanted_is (j := 2) (b := true) (by kernel_rfl) (by kernel_rfl) h94]; decide) ?_
              exact hK.out _ _ (Below.refl _ _) trivial
            · intro A wx hR hout hdep K hK
              have h94 : A.tmps[94]?.getD undef = .bool false := hdep 94 (by kernel_rfl)
              refine if_not (by rw [wanted_is (j := 2) (b := true) (by kernel_rfl) (by kernel_rfl) h94]; decide) ?_
              exact hK.out _ _ (Below.refl _ _) trivial
            · intro A wx hR hout hdep K hK
              have h94 : A.tmps[94]?.getD undef = .bool false := hdep 94 (by kernel_rfl)
              refine if_not (by rw [wanted_is (j := 2) (b := true) (by kernel_rfl) (by kernel_rfl) h94]; decide) ?_
              exact hK.out _ _ (Below.refl _ _) trivial
            · intro A wx hR hout hdep K hK
              have h94 : A.tmps[94]?.getD undef = .bool false := hdep 94 (by kernel_rfl)
              refine if_yes (by kernel_rfl) ?_
              simp [go_sem, h94, hq1, hq2, hq1', hq2', hv]
              exact hK.out _ _ (Below.refl _ _) rfl
            · intro A wx hR hout hdep K hK
              have h108 : A.tmps[108]?.getD undef = .bool false := hdep 108 (by kernel_rfl)
              refine if_yes (by kernel_rfl) ?_
              simp [go_sem, h108, hq1, hq2, hq1', hq2', hv]
              exact hK.out _ _ (Below.refl _ _) rfl
            · intro A wx hR hout hdep K hK
              have h12 : A.tmps[12]?.getD undef = .int .i64 0 := hout 12 (by kernel_rfl)
              have h109 : A.tmps[109]?.getD undef = .bool false := hdep 109 (by kernel_rfl)
              refine if_yes ((wanted_is (j := 19) (b := false) (by kernel_rfl) (by kernel_rfl) h109).trans rfl) ?_
              simp [go_sem, h12, hq1, hq2, hq1', hq2', hv]
              exact hK.out _ _ (Below.refl _ _) rfl
            · intro A wx hR hout hdep K hK
              have h110 : A.tmps[110]?.getD undef = .int .i64 0 := hdep 110 (by kernel_rfl)
              have h109 : A.tmps[109]?.getD undef = .bool false := hdep 109 (by kernel_rfl)
              refine if_yes ((wanted_is (j := 19) (b := false) (by kernel_rfl) (by kernel_rfl) h109).trans rfl) ?_
              simp [go_sem, h110, hq1, hq2, hq1', hq2', hv]
              exact hK.out _ _ (Below.refl _ _) rfl
            · intro A wx hR hout hdep K hK
              have h111 : A.tmps[111]?.getD undef = .bool true := hdep 111 (by kernel_rfl)
              have h109 : A.tmps[109]?.getD undef = .bool false := hdep 109 (by kernel_rfl)
              refine if_yes ((wanted_is (j := 19) (b := false) (by kernel_rfl) (by kernel_rfl) h109).trans rfl) ?_
              simp [go_sem, h111, hq1, hq2, hq1', hq2', hv]
              exact hK.out _ _ (Below.refl _ _) rfl
            · intro A wx hR hout hdep K hK
              have h11 : A.tmps[11]?.getD undef = .pointer (some ⟨w4.heap.size, 0, none⟩) := hout 11 (by kernel_rfl)
              have h112 : A.tmps[112]?.getD undef = .bool true := hdep 112 (by kernel_rfl)
              refine if_yes ((wanted_is (j := 22) (b := true) (by kernel_rfl) (by kernel_rfl) h112).trans rfl) ?_
              simp [go_sem, h11, hq1, hq2, hq1', hq2', hv]
              exact hK.out _ _ (Below.refl _ _) rfl
            · intro A wx hR hout hdep K hK
              have h113 : A.tmps[113]?.getD undef = .pointer (some ⟨w4.heap.size, 0, none⟩) := hdep 113 (by kernel_rfl)
              have h112 : A.tmps[112]?.getD undef = .bool true := hdep 112 (by kernel_rfl)
              refine if_yes ((wanted_is (j := 22) (b := true) (by kernel_rfl) (by kernel_rfl) h112).trans rfl) ?_
              have l0 := keep_cell hR l0
              have l1 := keep_cell hR l1
              have g0 := keep_cell hR g0
              have g1 := keep_cell hR g1
              have g2 := keep_cell hR g2
              have g3 := keep_cell hR g3
              simp [go_sem, h113, l0, l1, g0, g1, g2, g3, hq1, hq2, hq1', hq2', hv]
              exact hK.out _ _ (Below.refl _ _) rfl
            · intro A wx hR hout hdep K hK
              have h14 : A.tmps[14]?.getD undef = .pointer (some ⟨wr.heap.size, 0, none⟩) := hout 14 (by kernel_rfl)
              have h112 : A.tmps[112]?.getD undef = .bool true := hdep 112 (by kernel_rfl)
              refine if_yes ((wanted_is (j := 22) (b := true) (by kernel_rfl) (by kernel_rfl) h112).trans rfl) ?_
              simp [go_sem, h14, hq1, hq2, hq1', hq2', hv]
              exact hK.out _ _ (Below.refl _ _) rfl
            · intro A wx hR hout hdep K hK
              have h115 : A.tmps[115]?.getD undef = .pointer (some ⟨wr.heap.size, 0, none⟩) := hdep 115 (by kernel_rfl)
              have h112 : A.tmps[112]?.getD undef = .bool true := hdep 112 (by kernel_rfl)
              refine if_yes ((wanted_is (j := 22) (b := true) (by kernel_rfl) (by kernel_rfl) h112).trans rfl) ?_
              have l0 := keep_cell hR l0
              have l1 := keep_cell hR l1
              have g0 := keep_cell hR g0
              have g1 := keep_cell hR g1
              have g2 := keep_cell hR g2
              have g3 := keep_cell hR g3
              simp [go_sem, h115, l0, l1, g0, g1, g2, g3, hq1, hq2, hq1', hq2', hv]
              exact hK.out _ _ (Below.refl _ _) rfl
            · intro A wx hR hout hdep K hK
              have h114 : A.tmps[114]?.getD undef = .agg #[.slice y1 y2 y3, .slice y4 y5 y6, .int .u64 (bs : Int), .slice y7 y8 y9] := hdep 114 (by kernel_rfl)
              have h116 : A.tmps[116]?.getD undef = .int .u32 (p : Int) := hdep 116 (by kernel_rfl)
              have h112 : A.tmps[112]?.getD undef = .bool true := hdep 112 (by kernel_rfl)
              refine if_yes ((wanted_is (j := 22) (b := true) (by kernel_rfl) (by kernel_rfl) h112).trans rfl) ?_
              simp [go_sem, h114, h116, hq1, hq2, hq1', hq2', hv]
              refine (KPy.out p _ (below_tr hb9 (below_tr hbz hR))).mono ?_
              rintro e wG ⟨rfl, hbG⟩
              rw [hpy]
              exact hK.out _ _ hbG rfl
            · intro A wx hR hout hdep K hK
              have h117 : A.tmps[117]?.getD undef = .int .i64 vy := hdep 117 (by kernel_rfl)
              have h112 : A.tmps[112]?.getD undef = .bool true := hdep 112 (by kernel_rfl)
              refine if_yes ((wanted_is (j := 22) (b := true) (by kernel_rfl) (by kernel_rfl) h112).trans rfl) ?_
              simp [go_sem, h117, hq1, hq2, hq1', hq2', hv]
              exact hK.out _ _ (Below.refl _ _) rfl
            · intro A wx hR hout hdep K hK
              have h15 : A.tmps[15]?.getD undef = .bool false := hout 15 (by kernel_rfl)
              have h112 : A.tmps[112]?.getD undef = .bool true := hdep 112 (by kernel_rfl)
              refine if_yes ((wanted_is (j := 22) (b := true) (by kernel_rfl) (by kernel_rfl) h112).trans rfl) ?_
              simp [go_sem, h15, hq1, hq2, hq1', hq2', hv]
              exact hK.out _ _ (Below.refl _ _) rfl
            · intro A wx hR hout hdep K hK
              have h118 : A.tmps[118]?.getD undef = .bool true := hdep 118 (by kernel_rfl)
              have h119 : A.tmps[119]?.getD undef = .bool false := hdep 119 (by kernel_rfl)
              have h112 : A.tmps[112]?.getD undef = .bool true := hdep 112 (by kernel_rfl)
              refine if_yes ((wanted_is (j := 22) (b := true) (by kernel_rfl) (by kernel_rfl) h112).trans rfl) ?_
              simp [go_sem, h118, h119, hq1, hq2, hq1', hq2', hv]
              exact hK.out _ _ (Below.refl _ _) rfl
            · intro A wx hR hout hdep K hK
              have h112 : A.tmps[112]?.getD undef = .bool true := hdep 112 (by kernel_rfl)
              have h120 : A.tmps[120]?.getD undef = .bool false := hdep 120 (by kernel_rfl)
              have h109 : A.tmps[109]?.getD undef = .bool false := hdep 109 (by kernel_rfl)
              refine if_yes ((wanted_is (j := 19) (b := false) (by kernel_rfl) (by kernel_rfl) h109).trans rfl) ?_
              simp [go_sem, h112, h120, hq1, hq2, hq1', hq2', hv]
              exact hK.out _ _ (Below.refl _ _) rfl
            · intro A wx hR hout hdep K hK
              have h109 : A.tmps[109]?.getD undef = .bool false := hdep 109 (by kernel_rfl)
              have h121 : A.tmps[121]?.getD undef = .bool false := hdep 121 (by kernel_rfl)
              refine if_yes (by kernel_rfl) ?_
              simp [go_sem, h109, h121, hq1, hq2, hq1', hq2', hv]
              exact hK.out _ _ (Below.refl _ _) rfl
            simp only [putSl, Act.put, List.setIfInBounds_toArray, List.set_cons_zero, List.set_cons_succ]
            have hz : f 122 = .bool false := hf 122 (by kernel_rfl)
            rw [hz]
            have hbz := below_tr hbz hR
            clear hf hz
            go_wp2
            go_roundw
            case rel => exact ⟨k + 1, by omega, by go_num, hbz⟩
            case measure => simp [intOf]; omega
          · obtain ⟨q, hq⟩ : ∃ z, z = p - fp := ⟨_, rfl⟩
            have t1 : IntKind.u32.wrap ((p : Int) - (fp : Int)) = (q : Int) := by rw [IntKind.wrap_u32]; omega
            have t2 : ((p : Int) - (fp : Int)) % 4294967296 = (q : Int) := by omega
            have hd1 : (fp ≤ p) = True := by simp; omega
            by_cases hqk : q < kk
            · have hd2 : (q < kk) = True := by simp [hqk]
              have hi : inR a n p = true := by unfold inR; rw [← HFP.out, ← HKK.out]; simp; omega
              rw [hi] at hpy
              obtain ⟨vy, hvy⟩ : ∃ z, z = (-1 : Int) := ⟨_, rfl⟩
              rw [if_pos rfl, ← hvy] at hpy
              have hv : ((0 : Int) ≤ vy) = False := by simp; omega
              clear hvy
              clear hi
              clear hpf hq hqk
              go_wp2
              refine wp_region_slots (R := Ext) [⟨77, fun v _ => v = .pointer (some ⟨wr.heap.size, 0, none⟩), fun _ _ _ _ h => h⟩, ⟨78, fun v _ => v = .int .u32 (p : Int), fun _ _ _ _ h => h⟩, ⟨79, fun v _ => v = .int .u32 (a : Int), fun _ _ _ _ h => h⟩, ⟨80, fun v _ => v = .int .u32 (fp : Int), fun _ _ _ _ h => h⟩, ⟨81, fun v _ => v = .bool true, fun _ _ _ _ h => h⟩, ⟨82, fun v _ => v = .bool true, fun _ _ _ _ h => h⟩, ⟨83, fun v _ => v = .pointer (some ⟨wr.heap.size, 0, none⟩), fun _ _ _ _ h => h⟩, ⟨84, fun v _ => v = .int .u32 (p : Int), fun _ _ _ _ h => h⟩, ⟨85, fun v _ => v = .int .u32 (a : Int), fun _ _ _ _ h => h⟩, ⟨86, fun v _ => v = .int .u32 (fp : Int), fun _ _ _ _ h => h⟩, ⟨87, fun v _ => v = .int .u32 (q : Int), fun _ _ _ _ h => h⟩, ⟨88, fun v _ => v = .int .u32 (n : Int), fun _ _ _ _ h => h⟩, ⟨89, fun v _ => v = .int .u32 (kk : Int), fun _ _ _ _ h => h⟩, ⟨90, fun v _ => v = .bool true, fun _ _ _ _ h => h⟩, ⟨91, fun v _ => v = .bool true, fun _ _ _ _ h => h⟩, ⟨15, fun v _ => v = .bool true, fun _ _ _ _ h => h⟩] _ (by kernel_rfl) rfl (by kernel_rfl) (Below.drew (Below.refl _ _)) (fun _ _ _ h1 h2 => below_tr h1 h2) (fun QQ => ⟨?_, ?_, ?_, ?_, ?_, ?_, ?_, ?_, ?_, ?_, ?_, ?_, ?_, ?_, ?_, ?_, trivial⟩) (fun f wy hR hf => ?_)
              · intro A wx hR hout hdep K hK
                have h14 : A.tmps[14]?.getD undef = .pointer (some ⟨wr.heap.size, 0, none⟩) := hout 14 (by kernel_rfl)
                refine if_yes (by kernel_rfl) ?_
                simp [go_sem, h14, hd1, hd2, t1, t2, z1, z2, z2', z3]
                exact hK.out _ _ (Below.refl _ _) rfl
              · intro A wx hR hout hdep K hK
                have h77 : A.tmps[77]?.getD undef = .pointer (some ⟨wr.heap.size, 0, none⟩) := hdep 77 (by kernel_rfl)
                refine if_yes (by kernel_rfl) ?_
                have l0 := keep_cell hR l0
                have l1 := keep_cell hR l1
                simp [go_sem, h77, l0, l1, hd1, hd2, t1, t2, z1, z2, z2', z3]
                exact hK.out _ _ (Below.refl _ _) rfl
              · intro A wx hR hout hdep K hK
                have h1 : A.tmps[1]?.getD undef = .int .u32 (a : Int) := hout 1 (by kernel_rfl)
                refine if_yes (by kernel_rfl) ?_
                simp [go_sem, h1, hd1, hd2, t1, t2, z1, z2, z2', z3]
                exact hK.out _ _ (Below.refl _ _) rfl
              · intro A wx hR hout hdep K hK
                have h79 : A.tmps[79]?.getD undef = .int .u32 (a : Int) := hdep 79 (by kernel_rfl)
                refine if_yes (by kernel_rfl) ?_
                simp [go_sem, h79, hd1, hd2, t1, t2, z1, z2, z2', z3]
                exact hK.out _ _ (Below.refl _ _) rfl
              · intro A wx hR hout hdep K hK
                have h78 : A.tmps[78]?.getD undef = .int .u32 (p : Int) := hdep 78 (by kernel_rfl)
                have h80 : A.tmps[80]?.getD undef = .int .u32 (fp : Int) := hdep 80 (by kernel_rfl)
                refine if_yes (by kernel_rfl) ?_
                simp [go_sem, h78, h80, hd1, hd2, t1, t2, z1, z2, z2', z3]
                exact hK.out _ _ (Below.refl _ _) rfl
              · intro A wx hR hout hdep K hK
                have h81 : A.tmps[81]?.getD undef = .bool true := hdep 81 (by kernel_rfl)
                refine if_yes (by kernel_rfl) ?_
                simp [go_sem, h81, hd1, hd2, t1, t2, z1, z2, z2', z3]
                exact hK.out _ _ (Below.refl _ _) rfl
              · intro A wx hR hout hdep K hK
                have h14 : A.tmps[14]?.getD undef = .pointer (some ⟨wr.heap.size, 0, none⟩) := hout 14 (by kernel_rfl)
                have h82 : A.tmps[82]?.getD undef = .bool true := hdep 82 (by kernel_rfl)
                refine if_yes ((wanted_is (j := 5) (b := true) (by kernel_rfl) (by kernel_rfl) h82).trans rfl) ?_
                simp [go_sem, h14, hd1, hd2, t1, t2, z1, z2, z2', z3]
                exact hK.out _ _ (Below.refl _ _) rfl
              · intro A wx hR hout hdep K hK
                have h83 : A.tmps[83]?.getD undef = .pointer (some ⟨wr.heap.size, 0, none⟩) := hdep 83 (by kernel_rfl)
                have h82 : A.tmps[82]?.getD undef = .bool true := hdep 82 (by kernel_rfl)
                refine if_yes ((wanted_is (j := 5) (b := true) (by kernel_rfl) (by kernel_rfl) h82).trans rfl) ?_
                have l0 := keep_cell hR l0
                have l1 := keep_cell hR l1
                simp [go_sem, h83, l0, l1, hd1, hd2, t1, t2, z1, z2, z2', z3]
                exact hK.out _ _ (Below.refl _ _) rfl
              · intro A wx hR hout hdep K hK
                have h1 : A.tmps[1]?.getD undef = .int .u32 (a : Int) := hout 1 (by kernel_rfl)
                have h82 : A.tmps[82]?.getD undef = .bool true := hdep 82 (by kernel_rfl)
                refine if_yes ((wanted_is (j := 5) (b := true) (by kernel_rfl) (by kernel_rfl) h82).trans rfl) ?_
                simp [go_sem, h1, hd1, hd2, t1, t2, z1, z2, z2', z3]
                exact hK.out _ _ (Below.refl _ _) rfl
              · intro A wx hR hout hdep K hK
                have h85 : A.tmps[85]?.getD undef = .int .u32 (a : Int) := hdep 85 (by kernel_rfl)
                have h82 : A.tmps[82]?.getD undef = .bool true := hdep 82 (by kernel_rfl)
                refine if_yes ((wanted_is (j := 5) (b := true) (by kernel_rfl) (by kernel_rfl) h82).trans rfl) ?_
                simp [go_sem, h85, hd1, hd2, t1, t2, z1, z2, z2', z3]
                exact hK.out _ _ (Below.refl _ _) rfl
              · intro A wx hR hout hdep K hK
                have h84 : A.tmps[84]?.getD undef = .int .u32 (p : Int) := hdep 84 (by kernel_rfl)
                have h86 : A.tmps[86]?.getD undef = .int .u32 (fp : Int) := hdep 86 (by kernel_rfl)
                have h82 : A.tmps[82]?.getD undef = .bool true := hdep 82 (by kernel_rfl)
                refine if_yes ((wanted_is (j := 5) (b := true) (by kernel_rfl) (by kernel_rfl) h82).trans rfl) ?_
                simp [go_sem, h84, h86, hd1, hd2, t1, t2, z1, z2, z2', z3]
                exact hK.out _ _ (Below.refl _ _) rfl
              · intro A wx hR hout hdep K hK
                have h2 : A.tmps[2]?.getD undef = .int .u32 (n : Int) := hout 2 (by kernel_rfl)
                have h82 : A.tmps[82]?.getD undef = .bool true := hdep 82 (by kernel_rfl)
                refine if_yes ((wanted_is (j := 5) (b := true) (by kernel_rfl) (by kernel_rfl) h82).trans rfl) ?_
                simp [go_sem, h2, hd1, hd2, t1, t2, z1, z2, z2', z3]
                exact hK.out _ _ (Below.refl _ _) rfl
              · intro A wx hR hout hdep K hK
                have h88 : A.tmps[88]?.getD undef = .int .u32 (n : Int) := hdep 88 (by kernel_rfl)
                have h82 : A.tmps[82]?.getD undef = .bool true := hdep 82 (by kernel_rfl)
                refine if_yes ((wanted_is (j := 5) (b := true) (by kernel_rfl) (by kernel_rfl) h82).trans rfl) ?_
                simp [go_sem, h88, hd1, hd2, t1, t2, z1, z2, z2', z3]
                refine (K20.out wx).mono ?_
                rintro e wG ⟨rfl, rfl⟩
                exact hK.out _ _ (Below.refl _ _) rfl
              · intro A wx hR hout hdep K hK
                have h87 : A.tmps[87]?.getD undef = .int .u32 (q : Int) := hdep 87 (by kernel_rfl)
                have h89 : A.tmps[89]?.getD undef = .int .u32 (kk : Int) := hdep 89 (by kernel_rfl)
                have h82 : A.tmps[82]?.getD undef = .bool true := hdep 82 (by kernel_rfl)
                refine if_yes ((wanted_is (j := 5) (b := true) (by kernel_rfl) (by kernel_rfl) h82).trans rfl) ?_
                simp [go_sem, h87, h89, hd1, hd2, t1, t2, z1, z2, z2', z3]
                exact hK.out _ _ (Below.refl _ _) rfl
              · intro A wx hR hout hdep K hK
                have h82 : A.tmps[82]?.getD undef = .bool true := hdep 82 (by kernel_rfl)
                have h90 : A.tmps[90]?.getD undef = .bool true := hdep 90 (by kernel_rfl)
                refine if_yes (by kernel_rfl) ?_
                simp [go_sem, h82, h90, hd1, hd2, t1, t2, z1, z2, z2', z3]
                exact hK.out _ _ (Below.refl _ _) rfl
              · intro A wx hR hout hdep K hK
                have h91 : A.tmps[91]?.getD undef = .bool true := hdep 91 (by kernel_rfl)
                refine if_yes (by kernel_rfl) ?_
                simp [go_sem, h91, hd1, hd2, t1, t2, z1, z2, z2', z3]
                exact hK.out _ _ (Below.refl _ _) rfl
              simp only [putSl, Act.put, List.setIfInBounds_toArray, List.set_cons_zero, List.set_cons_succ]
              have hz : f 15 = .bool true := hf 15 (by kernel_rfl)
              rw [hz]
              have hbz := below_tr (below_tr hbr hb5) hR
              have l0 := keep_cell hR l0
              have l1 := keep_cell hR l1
              have d0 := keep_cell hR d0
              have d1 := keep_cell hR d1
              have d2 := keep_cell hR d2
              have d3 := keep_cell hR d3
              have g0 := keep_cell hR g0
              have g1 := keep_cell hR g1
              have g2 := keep_cell hR g2
              have g3 := keep_cell hR g3
              clear hf hz hR
              obtain ⟨W6, rfl⟩ : ∃ z, z = wy := ⟨_, rfl⟩
              go_wp2
              refine wp_region_slots (R := Ext) [⟨92, fun v _ => v = .int .i64 err1, fun _ _ _ _ h => h⟩, ⟨93, fun v _ => v = .bool false, fun _ _ _ _ h => h⟩, ⟨94, fun v _ => v = .bool false, fun _ _ _ _ h => h⟩, ⟨108, fun v _ => v = .bool false, fun _ _ _ _ h => h⟩, ⟨109, fun v _ => v = .bool false, fun _ _ _ _ h => h⟩, ⟨110, fun v _ => v = .int .i64 0, fun _ _ _ _ h => h⟩, ⟨111, fun v _ => v = .bool true, fun _ _ _ _ h => h⟩, ⟨112, fun v _ => v = .bool true, fun _ _ _ _ h => h⟩, ⟨113, fun v _ => v = .pointer (some ⟨w4.heap.size, 0, none⟩), fun _ _ _ _ h => h⟩, ⟨114, fun v _ => v = .agg #[.slice y1 y2 y3, .slice y4 y5 y6, .int .u64 (bs : Int), .slice y7 y8 y9], fun _ _ _ _ h => h⟩, ⟨115, fun v _ => v = .pointer (some ⟨wr.heap.size, 0, none⟩), fun _ _ _ _ h => h⟩, ⟨116, fun v _ => v = .int .u32 (p : Int), fun _ _ _ _ h => h⟩, ⟨117, fun v _ => v = .int .i64 vy, fun _ _ _ _ h => h⟩, ⟨118, fun v _ => v = .bool false, fun _ _ _ _ h => h⟩, ⟨119, fun v _ => v = .bool true, fun _ _ _ _ h => h⟩, ⟨120, fun v _ => v = .bool false, fun _ _ _ _ h => h⟩, ⟨121, fun v _ => v = .bool false, fun _ _ _ _ h => h⟩, ⟨122, fun v _ => v = .bool false, fun _ _ _ _ h => h⟩] _ (by kernel_rfl) rfl (by kernel_rfl) (Below.drew (Below.refl _ _)) (fun _ _ _ h1 h2 => below_tr h1 h2) (fun QQ => ⟨?_, ?_, ?_, ?_, ?_, ?_, ?_, ?_, ?_, ?_, ?_, ?_, ?_, ?_, ?_, ?_, ?_, ?_, ?_, ?_, ?_, ?_, ?_, ?_, ?_, ?_, ?_, ?_, ?_, ?_, ?_, ?_, ?_, trivial⟩) (fun f wy hR hf => ?_)
              · intro A wx hR hout hdep K hK
                have h10 : A.tmps[10]?.getD undef = .int .i64 err1 := hout 10 (by kernel_rfl)
                refine if_yes (by kernel_rfl) ?_
                simp [go_sem, h10, hq1, hq2, hq1', hq2', hv]
                exact hK.out _ _ (Below.refl _ _) rfl
              · intro A wx hR hout hdep K hK
                have h92 : A.tmps[92]?.getD undef = .int .i64 err1 := hdep 92 (by kernel_rfl)
                refine if_yes (by kernel_rfl) ?_
                simp [go_sem, h92, hq1, hq2, hq1', hq2', hv]
                exact hK.out _ _ (Below.refl _ _) rfl
              · intro A wx hR hout hdep K hK
                have h93 : A.tmps[93]?.getD undef = .bool false := hdep 93 (by kernel_rfl)
                refine if_yes (by kernel_rfl) ?_
                simp [go_sem, h93, hq1, hq2, hq1', hq2', hv]
                exact hK.out _ _ (Below.refl _ _) rfl
              · intro A wx hR hout hdep K hK
                have h9 : A.tmps[9]?.getD undef = .pointer (some ⟨w3.heap.size, 0, none⟩) := hout 9 (by kernel_rfl)
                have h94 : A.tmps[94]?.getD undef = .bool false := hdep 94 (by kernel_rfl)
                refine if_not (by rw [wanted_is (j := 2) (b := true) (by kernel_rfl) (by kernel_rfl) h94]; decide) ?_
                exact hK.out _ _ (Below.refl _ _) trivial
              · intro A wx hR hout hdep K hK
                have h94 : A.tmps[94]?.getD undef = .bool false := hdep 94 (by kernel_rfl)
                refine if_not (by rw [wanted_is (j := 2) (b := true) (by kernel_rfl) (by kernel_rfl) h94]; decide) ?_
                exact hK.out _ _ (Below.refl _ _) trivial
              · intro A wx hR hout hdep K hK
                have h14 : A.tmps[14]?.getD undef = .pointer (some ⟨wr.heap.size, 0, none⟩) := hout 14 (by kernel_rfl)
                have h94 : A.tmps[94]?.getD undef = .bool false := hdep 94 (by kernel_rfl)
                refine if_not (by rw [wanted_is (j := 2) (b := true) (by kernel_rfl) (by kernel_rfl) h94]; decide) ?_
                exact hK.out _ _ (Below.refl _ _) trivial
              · intro A wx hR hout hdep K hK
                have h94 : A.tmps[94]?.getD undef = .bool false := hdep 94 (by kernel_rfl)
                refine if_not (by rw [wanted_is (j := 2) (b := true) (by kernel_rfl) (by kernel_rfl) h94]; decide) ?_
                exact hK.out _ _ (Below.refl _ _) trivial
              · intro A wx hR hout hdep K hK
                have h94 : A.tmps[94]?.getD undef = .bool false := hdep 94 (by kernel_rfl)
                refine if_not (by rw [wanted_is (j := 2) (b := true) (by kernel_rfl) (by kernel_rfl) h94]; decide) ?_
                exact hK.out _ _ (Below.refl _ _) trivial
              · intro A wx hR hout hdep K hK
                have h94 : A.tmps[94]?.getD undef = .bool false := hdep 94 (by kernel_rfl)
                refine if_not (by rw [wanted_is (j := 2) (b := true) (by kernel_rfl) (by kernel_rfl) h94]; decide) ?_
                exact hK.out _ _ (Below.refl _ _) trivial
              · intro A wx hR hout hdep K hK
                have h3 : A.tmps[3]?.getD undef = .int .i64 prot := hout 3 (by kernel_rfl)
                have h94 : A.tmps[94]?.getD undef = .bool false := hdep 94 (by kernel_rfl)
                refine if_not (by rw [wanted_is (j := 2) (b := true) (by kernel_rfl) (by kernel_rfl) h94]; decide) ?_
                exact hK.out _ _ (Below.refl _ _) trivial
              · intro A wx hR hout hdep K hK
                have h94 : A.tmps[94]?.getD undef = .bool false := hdep 94 (by kernel_rfl)
                refine if_not (by rw [wanted_is (j := 2) (b := true) (by kernel_rfl) (by kernel_rfl) h94]; decide) ?_
                exact hK.out _ _ (Below.refl _ _) trivial
              · intro A wx hR hout hdep K hK
                have h14 : A.tmps[14]?.getD undef = .pointer (some ⟨wr.heap.size, 0, none⟩) := hout 14 (by kernel_rfl)
                have h94 : A.tmps[94]?.getD undef = .bool false := hdep 94 (by kernel_rfl)
                refine if_not (by rw [wanted_is (j := 2) (b := true) (by kernel_rfl) (by kernel_rfl) h94]; decide) ?_
                exact hK.out _ _ (Below.refl _ _) trivial
              · intro A wx hR hout hdep K hK
                have h94 : A.tmps[94]?.getD undef = .bool false := hdep 94 (by kernel_rfl)
                refine if_not (by rw [wanted_is (j := 2) (b := true) (by kernel_rfl) (by kernel_rfl) h94]; decide) ?_
                exact hK.out _ _ (Below.refl _ _) trivial
              · intro A wx hR hout hdep K hK
                have h94 : A.tmps[94]?.getD undef = .bool false := hdep 94 (by kernel_rfl)
                refine if_not (by rw [wanted_is (j := 2) (b := true) (by kernel_rfl) (by kernel_rfl) h94]; decide) ?_
                exact hK.out _ _ (Below.refl _ _) trivial
              · intro A wx hR hout hdep K hK
                have h94 : A.tmps[94]?.getD undef = .bool false := hdep 94 (by kernel_rfl)
                refine if_not (by rw [wanted_is (j := 2) (b := true) (by kernel_rfl) (by kernel_rfl) h94]; decide) ?_
                exact hK.out _ _ (Below.refl _ _) trivial
              · intro A wx hR hout hdep K hK
                have h15 : A.tmps[15]?.getD undef = .bool true := hout 15 (by kernel_rfl)
                have h94 : A.tmps[94]?.getD undef = .bool false := hdep 94 (by kernel_rfl)
                refine if_not (by rw [wanted_is (j := 2) (b := true) (by kernel_rfl) (by kernel_rfl) h94]; decide) ?_
                exact hK.out _ _ (Below.refl _ _) trivial
              · intro A wx hR hout hdep K hK
                have h94 : A.tmps[94]?.getD undef = .bool false := hdep 94 (by kernel_rfl)
                refine if_not (by rw [wanted_is (j := 2) (b := true) (by kernel_rfl) (by kernel_rfl) h94]; decide) ?_
                exact hK.out _ _ (Below.refl _ _) trivial
              · intro A wx hR hout hdep K hK
                have h94 : A.tmps[94]?.getD undef = .bool false := hdep 94 (by kernel_rfl)
                refine if_not (by rw [wanted_is (j := 2) (b := true) (by kernel_rfl) (by kernel_rfl) h94]; decide) ?_
                exact hK.out _ _ (Below.refl _ _) trivial
              · intro A wx hR hout hdep K hK
                have h94 : A.tmps[94]?.getD undef = .bool false := hdep 94 (by kernel_rfl)
                refine if_yes (by kernel_rfl) ?_
                simp [go_sem, h94, hq1, hq2, hq1', hq2', hv]
                exact hK.out _ _ (Below.refl _ _) rfl
              · intro A wx hR hout hdep K hK
                have h108 : A.tmps[108]?.getD undef = .bool false := hdep 108 (by kernel_rfl)
                refine if_yes (by kernel_rfl) ?_
                simp [go_sem, h108, hq1, hq2, hq1', hq2', hv]
                exact hK.out _ _ (Below.refl _ _) rfl
              · intro A wx hR hout hdep K hK
                have h12 : A.tmps[12]?.getD undef = .int .i64 0 := hout 12 (by kernel_rfl)
                have h109 : A.tmps[109]?.getD undef = .bool false := hdep 109 (by kernel_rfl)
                refine if_yes ((wanted_is (j := 19) (b := false) (by kernel_rfl) (by kernel_rfl) h109).trans rfl) ?_
                simp [go_sem, h12, hq1, hq2, hq1', hq2', hv]
                exact hK.out _ _ (Below.refl _ _) rfl
              · intro A wx hR hout hdep K hK
                have h110 : A.tmps[110]?.getD undef = .int .i64 0 := hdep 110 (by kernel_rfl)
                have h109 : A.tmps[109]?.getD undef = .bool false := hdep 109 (by kernel_rfl)
                refine if_yes ((wanted_is (j := 19) (b := false) (by kernel_rfl) (by kernel_rfl) h109).trans rfl) ?_
                simp [go_sem, h110, hq1, hq2, hq1', hq2', hv]
                exact hK.out _ _ (Below.refl _ _) rfl
              · intro A wx hR hout hdep K hK
                have h111 : A.tmps[111]?.getD undef = .bool true := hdep 111 (by kernel_rfl)
                have h109 : A.tmps[109]?.getD undef = .bool false := hdep 109 (by kernel_rfl)
                refine if_yes ((wanted_is (j := 19) (b := false) (by kernel_rfl) (by kernel_rfl) h109).trans rfl) ?_
                simp [go_sem, h111, hq1, hq2, hq1', hq2', hv]
                exact hK.out _ _ (Below.refl _ _) rfl
              · intro A wx hR hout hdep K hK
                have h11 : A.tmps[11]?.getD undef = .pointer (some ⟨w4.heap.size, 0, none⟩) := hout 11 (by kernel_rfl)
                have h112 : A.tmps[112]?.getD undef = .bool true := hdep 112 (by kernel_rfl)
                refine if_yes ((wanted_is (j := 22) (b := true) (by kernel_rfl) (by kernel_rfl) h112).trans rfl) ?_
                simp [go_sem, h11, hq1, hq2, hq1', hq2', hv]
                exact hK.out _ _ (Below.refl _ _) rfl
              · intro A wx hR hout hdep K hK
                have h113 : A.tmps[113]?.getD undef = .pointer (some ⟨w4.heap.size, 0, none⟩) := hdep 113 (by kernel_rfl)
                have h112 : A.tmps[112]?.getD undef = .bool true := hdep 112 (by kernel_rfl)
                refine if_yes ((wanted_is (j := 22) (b := true) (by kernel_rfl) (by kernel_rfl) h112).trans rfl) ?_
                have l0 := keep_cell hR l0
                have l1 := keep_cell hR l1
                have g0 := keep_cell hR g0
                have g1 := keep_cell hR g1
                have g2 := keep_cell hR g2
                have g3 := keep_cell hR g3
                simp [go_sem, h113, l0, l1, g0, g1, g2, g3, hq1, hq2, hq1', hq2', hv]
                exact hK.out _ _ (Below.refl _ _) rfl
              · intro A wx hR hout hdep K hK
                have h14 : A.tmps[14]?.getD undef = .pointer (some ⟨wr.heap.size, 0, none⟩) := hout 14 (by kernel_rfl)
                have h112 : A.tmps[112]?.getD undef = .bool true := hdep 112 (by kernel_rfl)
                refine if_yes ((wanted_is (j := 22) (b := true) (by kernel_rfl) (by kernel_rfl) h112).trans rfl) ?_
                simp [go_sem, h14, hq1, hq2, hq1', hq2', hv]
                exact hK.out _ _ (Below.refl _ _) rfl
              · intro A wx hR hout hdep K hK
                have h115 : A.tmps[115]?.getD undef = .pointer (some ⟨wr.heap.size, 0, none⟩) := hdep 115 (by kernel_rfl)
                have h112 : A.tmps[112]?.getD undef = .bool true := hdep 112 (by kernel_rfl)
                refine if_yes ((wanted_is (j := 22) (b := true) (by kernel_rfl) (by kernel_rfl) h112).trans rfl) ?_
                have l0 := keep_cell hR l0
                have l1 := keep_cell hR l1
                have g0 := keep_cell hR g0
                have g1 := keep_cell hR g1
                have g2 := keep_cell hR g2
                have g3 := keep_cell hR g3
                simp [go_sem, h115, l0, l1, g0, g1, g2, g3, hq1, hq2, hq1', hq2', hv]
                exact hK.out _ _ (Below.refl _ _) rfl
              · intro A wx hR hout hdep K hK
                have h114 : A.tmps[114]?.getD undef = .agg #[.slice y1 y2 y3, .slice y4 y5 y6, .int .u64 (bs : Int), .slice y7 y8 y9] := hdep 114 (by kernel_rfl)
                have h116 : A.tmps[116]?.getD undef = .int .u32 (p : Int) := hdep 116 (by kernel_rfl)
                have h112 : A.tmps[112]?.getD undef = .bool true := hdep 112 (by kernel_rfl)
                refine if_yes ((wanted_is (j := 22) (b := true) (by kernel_rfl) (by kernel_rfl) h112).trans rfl) ?_
                simp [go_sem, h114, h116, hq1, hq2, hq1', hq2', hv]
                refine (KPy.out p _ (below_tr hb9 (below_tr hbz hR))).mono ?_
                rintro e wG ⟨rfl, hbG⟩
                rw [hpy]
                exact hK.out _ _ hbG rfl
              · intro A wx hR hout hdep K hK
                have h117 : A.tmps[117]?.getD undef = .int .i64 vy := hdep 117 (by kernel_rfl)
                have h112 : A.tmps[112]?.getD undef = .bool true := hdep 112 (by kernel_rfl)
                refine if_yes ((wanted_is (j := 22) (b := true) (by kernel_rfl) (by kernel_rfl) h112).trans rfl) ?_
                simp [go_sem, h117, hq1, hq2, hq1', hq2', hv]
                exact hK.out _ _ (Below.refl _ _) rfl
              · intro A wx hR hout hdep K hK
                have h15 : A.tmps[15]?.getD undef = .bool true := hout 15 (by kernel_rfl)
                have h112 : A.tmps[112]?.getD undef = .bool true := hdep 112 (by kernel_rfl)
                refine if_yes ((wanted_is (j := 22) (b := true) (by kernel_rfl) (by kernel_rfl) h112).trans rfl) ?_
                simp [go_sem, h15, hq1, hq2, hq1', hq2', hv]
                exact hK.out _ _ (Below.refl _ _) rfl
              · intro A wx hR hout hdep K hK
                have h118 : A.tmps[118]?.getD undef = .bool false := hdep 118 (by kernel_rfl)
                have h119 : A.tmps[119]?.getD undef = .bool true := hdep 119 (by kernel_rfl)
                have h112 : A.tmps[112]?.getD undef = .bool true := hdep 112 (by kernel_rfl)
                refine if_yes ((wanted_is (j := 22) (b := true) (by kernel_rfl) (by kernel_rfl) h112).trans rfl) ?_
                simp [go_sem, h118, h119, hq1, hq2, hq1', hq2', hv]
                exact hK.out _ _ (Below.refl _ _) rfl
              · intro A wx hR hout hdep K hK
                have h112 : A.tmps[112]?.getD undef = .bool true := hdep 112 (by kernel_rfl)
                have h120 : A.tmps[120]?.getD undef = .bool false := hdep 120 (by kernel_rfl)
                have h109 : A.tmps[109]?.getD undef = .bool false := hdep 109 (by kernel_rfl)
                refine if_yes ((wanted_is (j := 19) (b := false) (by kernel_rfl) (by kernel_rfl) h109).trans rfl) ?_
                simp [go_sem, h112, h120, hq1, hq2, hq1', hq2', hv]
                exact hK.out _ _ (Below.refl _ _) rfl
              · intro A wx hR hout hdep K hK
                have h109 : A.tmps[109]?.getD undef = .bool false := hdep 109 (by kernel_rfl)
                have h121 : A.tmps[121]?.getD undef = .bool false := hdep 121 (by kernel_rfl)
                refine if_yes (by kernel_rfl) ?_
                simp [go_sem, h109, h121, hq1, hq2, hq1', hq2', hv]
                exact hK.out _ _ (Below.refl _ _) rfl
              simp only [putSl, Act.put, List.setIfInBounds_toArray, List.set_cons_zero, List.set_cons_succ]
              have hz : f 122 = .bool false := hf 122 (by kernel_rfl)
              rw [hz]
              have hbz := below_tr hbz hR
              clear hf hz
              go_wp2
              go_roundw
              case rel => exact ⟨k + 1, by omega, by go_num, hbz⟩
              case measure => simp [intOf]; omega
            · have hd2 : (q < kk) = False := by simp [hqk]
              have hi : inR a n p = false := by unfold inR; rw [← HFP.out, ← HKK.out]; simp; omega
              rw [hi] at hpy
              obtain ⟨vy, hvy⟩ : ∃ z, z = r := ⟨_, rfl⟩
              rw [if_neg (by decide), ← hvy] at hpy
              have hv : ((0 : Int) ≤ vy) = True := by simp; omega
              clear hvy
              clear hi
              clear hpf hq hqk
              go_wp2
              refine wp_region_slots (R := Ext) [⟨77, fun v _ => v = .pointer (some ⟨wr.heap.size, 0, none⟩), fun _ _ _ _ h => h⟩, ⟨78, fun v _ => v = .int .u32 (p : Int), fun _ _ _ _ h => h⟩, ⟨79, fun v _ => v = .int .u32 (a : Int), fun _ _ _ _ h => h⟩, ⟨80, fun v _ => v = .int .u32 (fp : Int), fun _ _ _ _ h => h⟩, ⟨81, fun v _ => v = .bool true, fun _ _ _ _ h => h⟩, ⟨82, fun v _ => v = .bool true, fun _ _ _ _ h => h⟩, ⟨83, fun v _ => v = .pointer (some ⟨wr.heap.size, 0, none⟩), fun _ _ _ _ h => h⟩, ⟨84, fun v _ => v = .int .u32 (p : Int), fun _ _ _ _ h => h⟩, ⟨85, fun v _ => v = .int .u32 (a : Int), fun _ _ _ _ h => h⟩, ⟨86, fun v _ => v = .int .u32 (fp : Int), fun _ _ _ _ h => h⟩, ⟨87, fun v _ => v = .int .u32 (q : Int), fun _ _ _ _ h => h⟩, ⟨88, fun v _ => v = .int .u32 (n : Int), fun _ _ _ _ h => h⟩, ⟨89, fun v _ => v = .int .u32 (kk : Int), fun _ _ _ _ h => h⟩, ⟨90, fun v _ => v = .bool false, fun _ _ _ _ h => h⟩, ⟨91, fun v _ => v = .bool false, fun _ _ _ _ h => h⟩, ⟨15, fun v _ => v = .bool false, fun _ _ _ _ h => h⟩] _ (by kernel_rfl) rfl (by kernel_rfl) (Below.drew (Below.refl _ _)) (fun _ _ _ h1 h2 => below_tr h1 h2) (fun QQ => ⟨?_, ?_, ?_, ?_, ?_, ?_, ?_, ?_, ?_, ?_, ?_, ?_, ?_, ?_, ?_, ?_, trivial⟩) (fun f wy hR hf => ?_)
              · intro A wx hR hout hdep K hK
                have h14 : A.tmps[14]?.getD undef = .pointer (some ⟨wr.heap.size, 0, none⟩) := hout 14 (by kernel_rfl)
                refine if_yes (by kernel_rfl) ?_
                simp [go_sem, h14, hd1, hd2, t1, t2, z1, z2, z2', z3]
                exact hK.out _ _ (Below.refl _ _) rfl
              · intro A wx hR hout hdep K hK
                have h77 : A.tmps[77]?.getD undef = .pointer (some ⟨wr.heap.size, 0, none⟩) := hdep 77 (by kernel_rfl)
                refine if_yes (by kernel_rfl) ?_
                have l0 := keep_cell hR l0
                have l1 := keep_cell hR l1
                simp [go_sem, h77, l0, l1, hd1, hd2, t1, t2, z1, z2, z2', z3]
                exact hK.out _ _ (Below.refl _ _) rfl
              · intro A wx hR hout hdep K hK
                have h1 : A.tmps[1]?.getD undef = .int .u32 (a : Int) := hout 1 (by kernel_rfl)
                refine if_yes (by kernel_rfl) ?_
                simp [go_sem, h1, hd1, hd2, t1, t2, z1, z2, z2', z3]
                exact hK.out _ _ (Below.refl _ _) rfl
              · intro A wx hR hout hdep K hK
                have h79 : A.tmps[79]?.getD undef = .int .u32 (a : Int) := hdep 79 (by kernel_rfl)
                refine if_yes (by kernel_rfl) ?_
                simp [go_sem, h79, hd1, hd2, t1, t2, z1, z2, z2', z3]
                exact hK.out _ _ (Below.refl _ _) rfl
              · intro A wx hR hout hdep K hK
                have h78 : A.tmps[78]?.getD undef = .int .u32 (p : Int) := hdep 78 (by kernel_rfl)
                have h80 : A.tmps[80]?.getD undef = .int .u32 (fp : Int) := hdep 80 (by kernel_rfl)
                refine if_yes (by kernel_rfl) ?_
                simp [go_sem, h78, h80, hd1, hd2, t1, t2, z1, z2, z2', z3]
                exact hK.out _ _ (Below.refl _ _) rfl
              · intro A wx hR hout hdep K hK
                have h81 : A.tmps[81]?.getD undef = .bool true := hdep 81 (by kernel_rfl)
                refine if_yes (by kernel_rfl) ?_
                simp [go_sem, h81, hd1, hd2, t1, t2, z1, z2, z2', z3]
                exact hK.out _ _ (Below.refl _ _) rfl
              · intro A wx hR hout hdep K hK
                have h14 : A.tmps[14]?.getD undef = .pointer (some ⟨wr.heap.size, 0, none⟩) := hout 14 (by kernel_rfl)
                have h82 : A.tmps[82]?.getD undef = .bool true := hdep 82 (by kernel_rfl)
                refine if_yes ((wanted_is (j := 5) (b := true) (by kernel_rfl) (by kernel_rfl) h82).trans rfl) ?_
                simp [go_sem, h14, hd1, hd2, t1, t2, z1, z2, z2', z3]
                exact hK.out _ _ (Below.refl _ _) rfl
              · intro A wx hR hout hdep K hK
                have h83 : A.tmps[83]?.getD undef = .pointer (some ⟨wr.heap.size, 0, none⟩) := hdep 83 (by kernel_rfl)
                have h82 : A.tmps[82]?.getD undef = .bool true := hdep 82 (by kernel_rfl)
                refine if_yes ((wanted_is (j := 5) (b := true) (by kernel_rfl) (by kernel_rfl) h82).trans rfl) ?_
                have l0 := keep_cell hR l0
                have l1 := keep_cell hR l1
                simp [go_sem, h83, l0, l1, hd1, hd2, t1, t2, z1, z2, z2', z3]
                exact hK.out _ _ (Below.refl _ _) rfl
              · intro A wx hR hout hdep K hK
                have h1 : A.tmps[1]?.getD undef = .int .u32 (a : Int) := hout 1 (by kernel_rfl)
                have h82 : A.tmps[82]?.getD undef = .bool true := hdep 82 (by kernel_rfl)
                refine if_yes ((wanted_is (j := 5) (b := true) (by kernel_rfl) (by kernel_rfl) h82).trans rfl) ?_
                simp [go_sem, h1, hd1, hd2, t1, t2, z1, z2, z2', z3]
                exact hK.out _ _ (Below.refl _ _) rfl
              · intro A wx hR hout hdep K hK
                have h85 : A.tmps[85]?.getD undef = .int .u32 (a : Int) := hdep 85 (by kernel_rfl)
                have h82 : A.tmps[82]?.getD undef = .bool true := hdep 82 (by kernel_rfl)
                refine if_yes ((wanted_is (j := 5) (b := true) (by kernel_rfl) (by kernel_rfl) h82).trans rfl) ?_
                simp [go_sem, h85, hd1, hd2, t1, t2, z1, z2, z2', z3]
                exact hK.out _ _ (Below.refl _ _) rfl
              · intro A wx hR hout hdep K hK
                have h84 : A.tmps[84]?.getD undef = .int .u32 (p : Int) := hdep 84 (by kernel_rfl)
                have h86 : A.tmps[86]?.getD undef = .int .u32 (fp : Int) := hdep 86 (by kernel_rfl)
                have h82 : A.tmps[82]?.getD undef = .bool true := hdep 82 (by kernel_rfl)
                refine if_yes ((wanted_is (j := 5) (b := true) (by kernel_rfl) (by kernel_rfl) h82).trans rfl) ?_
                simp [go_sem, h84, h86, hd1, hd2, t1, t2, z1, z2, z2', z3]
                exact hK.out _ _ (Below.refl _ _) rfl
              · intro A wx hR hout hdep K hK
                have h2 : A.tmps[2]?.getD undef = .int .u32 (n : Int) := hout 2 (by kernel_rfl)
                have h82 : A.tmps[82]?.getD undef = .bool true := hdep 82 (by kernel_rfl)
                refine if_yes ((wanted_is (j := 5) (b := true) (by kernel_rfl) (by kernel_rfl) h82).trans rfl) ?_
                simp [go_sem, h2, hd1, hd2, t1, t2, z1, z2, z2', z3]
                exact hK.out _ _ (Below.refl _ _) rfl
              · intro A wx hR hout hdep K hK
                have h88 : A.tmps[88]?.getD undef = .int .u32 (n : Int) := hdep 88 (by kernel_rfl)
                have h82 : A.tmps[82]?.getD undef = .bool true := hdep 82 (by kernel_rfl)
                refine if_yes ((wanted_is (j := 5) (b := true) (by kernel_rfl) (by kernel_rfl) h82).trans rfl) ?_
                simp [go_sem, h88, hd1, hd2, t1, t2, z1, z2, z2', z3]
                refine (K20.out wx).mono ?_
                rintro e wG ⟨rfl, rfl⟩
                exact hK.out _ _ (Below.refl _ _) rfl
              · intro A wx hR hout hdep K hK
                have h87 : A.tmps[87]?.getD undef = .int .u32 (q : Int) := hdep 87 (by kernel_rfl)
                have h89 : A.tmps[89]?.getD undef = .int .u32 (kk : Int) := hdep 89 (by kernel_rfl)
                have h82 : A.tmps[82]?.getD undef = .bool true := hdep 82 (by kernel_rfl)
                refine if_yes ((wanted_is (j := 5) (b := true) (by kernel_rfl) (by kernel_rfl) h82).trans rfl) ?_
                simp [go_sem, h87, h89, hd1, hd2, t1, t2, z1, z2, z2', z3]
                exact hK.out _ _ (Below.refl _ _) rfl
              · intro A wx hR hout hdep K hK
                have h82 : A.tmps[82]?.getD undef = .bool true := hdep 82 (by kernel_rfl)
                have h90 : A.tmps[90]?.getD undef = .bool false := hdep 90 (by kernel_rfl)
                refine if_yes (by kernel_rfl) ?_
                simp [go_sem, h82, h90, hd1, hd2, t1, t2, z1, z2, z2', z3]
                exact hK.out _ _ (Below.refl _ _) rfl
              · intro A wx hR hout hdep K hK
                have h91 : A.tmps[91]?.getD undef = .bool false := hdep 91 (by kernel_rfl)
                refine if_yes (by kernel_rfl) ?_
                simp [go_sem, h91, hd1, hd2, t1, t2, z1, z2, z2', z3]
                exact hK.out _ _ (Below.refl _ _) rfl
              simp only [putSl, Act.put, List.setIfInBounds_toArray, List.set_cons_zero, List.set_cons_succ]
              have hz : f 15 = .bool false := hf 15 (by kernel_rfl)
              rw [hz]
              have hbz := below_tr (below_tr hbr hb5) hR
              have l0 := keep_cell hR l0
              have l1 := keep_cell hR l1
              have d0 := keep_cell hR d0
              have d1 := keep_cell hR d1
              have d2 := keep_cell hR d2
              have d3 := keep_cell hR d3
              have g0 := keep_cell hR g0
              have g1 := keep_cell hR g1
              have g2 := keep_cell hR g2
              have g3 := keep_cell hR g3
              clear hf hz hR
              obtain ⟨W6, rfl⟩ : ∃ z, z = wy := ⟨_, rfl⟩
              go_wp2
              refine wp_region_slots (R := Ext) [⟨92, fun v _ => v = .int .i64 err1, fun _ _ _ _ h => h⟩, ⟨93, fun v _ => v = .bool false, fun _ _ _ _ h => h⟩, ⟨94, fun v _ => v = .bool false, fun _ _ _ _ h => h⟩, ⟨108, fun v _ => v = .bool false, fun _ _ _ _ h => h⟩, ⟨109, fun v _ => v = .bool false, fun _ _ _ _ h => h⟩, ⟨110, fun v _ => v = .int .i64 0, fun _ _ _ _ h => h⟩, ⟨111, fun v _ => v = .bool true, fun _ _ _ _ h => h⟩, ⟨112, fun v _ => v = .bool true, fun _ _ _ _ h => h⟩, ⟨113, fun v _ => v = .pointer (some ⟨w4.heap.size, 0, none⟩), fun _ _ _ _ h => h⟩, ⟨114, fun v _ => v = .agg #[.slice y1 y2 y3, .slice y4 y5 y6, .int .u64 (bs : Int), .slice y7 y8 y9], fun _ _ _ _ h => h⟩, ⟨115, fun v _ => v = .pointer (some ⟨wr.heap.size, 0, none⟩), fun _ _ _ _ h => h⟩, ⟨116, fun v _ => v = .int .u32 (p : Int), fun _ _ _ _ h => h⟩, ⟨117, fun v _ => v = .int .i64 vy, fun _ _ _ _ h => h⟩, ⟨118, fun v _ => v = .bool true, fun _ _ _ _ h => h⟩, ⟨119, fun v _ => v = .bool false, fun _ _ _ _ h => h⟩, ⟨120, fun v _ => v = .bool false, fun _ _ _ _ h => h⟩, ⟨121, fun v _ => v = .bool false, fun _ _ _ _ h => h⟩, ⟨122, fun v _ => v = .bool false, fun _ _ _ _ h => h⟩] _ (by kernel_rfl) rfl (by kernel_rfl) (Below.drew (Below.refl _ _)) (fun _ _ _ h1 h2 => below_tr h1 h2) (fun QQ => ⟨?_, ?_, ?_, ?_, ?_, ?_, ?_, ?_, ?_, ?_, ?_, ?_, ?_, ?_, ?_, ?_, ?_, ?_, ?_, ?_, ?_, ?_, ?_, ?_, ?_, ?_, ?_, ?_, ?_, ?_, ?_, ?_, ?_, trivial⟩) (fun f wy hR hf => ?_)
              · intro A wx hR hout hdep K hK
                have h10 : A.tmps[10]?.getD undef = .int .i64 err1 := hout 10 (by kernel_rfl)
                refine if_yes (by kernel_rfl) ?_
                simp [go_sem, h10, hq1, hq2, hq1', hq2', hv]
                exact hK.out _ _ (Below.refl _ _) rfl
              · intro A wx hR hout hdep K hK
                have h92 : A.tmps[92]?.getD undef = .int .i64 err1 := hdep 92 (by kernel_rfl)
                refine if_yes (by kernel_rfl) ?_
                simp [go_sem, h92, hq1, hq2, hq1', hq2', hv]
                exact hK.out _ _ (Below.refl _ _) rfl
              · intro A wx hR hout hdep K hK
                have h93 : A.tmps[93]?.getD undef = .bool false := hdep 93 (by kernel_rfl)
                refine if_yes (by kernel_rfl) ?_
                simp [go_sem, h93, hq1, hq2, hq1', hq2', hv]
                exact hK.out _ _ (Below.refl _ _) rfl
              · intro A wx hR hout hdep K hK
                have h9 : A.tmps[9]?.getD undef = .pointer (some ⟨w3.heap.size, 0, none⟩) := hout 9 (by kernel_rfl)
                have h94 : A.tmps[94]?.getD undef = .bool false := hdep 94 (by kernel_rfl)
                refine if_not (by rw [wanted_is (j := 2) (b := true) (by kernel_rfl) (by kernel_rfl) h94]; decide) ?_
                exact hK.out _ _ (Below.refl _ _) trivial
              · intro A wx hR hout hdep K hK
                have h94 : A.tmps[94]?.getD undef = .bool false := hdep 94 (by kernel_rfl)
                refine if_not (by rw [wanted_is (j := 2) (b := true) (by kernel_rfl) (by kernel_rfl) h94]; decide) ?_
                exact hK.out _ _ (Below.refl _ _) trivial
              · intro A wx hR hout hdep K hK
                have h14 : A.tmps[14]?.getD undef = .pointer (some ⟨wr.heap.size, 0, none⟩) := hout 14 (by kernel_rfl)
                have h94 : A.tmps[94]?.getD undef = .bool false := hdep 94 (by kernel_rfl)
                refine if_not (by rw [wanted_is (j := 2) (b := true) (by kernel_rfl) (by kernel_rfl) h94]; decide) ?_
                exact hK.out _ _ (Below.refl _ _) trivial
              · intro A wx hR hout hdep K hK
                have h94 : A.tmps[94]?.getD undef = .bool false := hdep 94 (by kernel_rfl)
                refine if_not (by rw [wanted_is (j := 2) (b := true) (by kernel_rfl) (by kernel_rfl) h94]; decide) ?_
                exact hK.out _ _ (Below.refl _ _) trivial
              · intro A wx hR hout hdep K hK
                have h94 : A.tmps[94]?.getD undef = .bool false := hdep 94 (by kernel_rfl)
                refine if_not (by rw [wanted_is (j := 2) (b := true) (by kernel_rfl) (by kernel_rfl) h94]; decide) ?_
                exact hK.out _ _ (Below.refl _ _) trivial
              · intro A wx hR hout hdep K hK
                have h94 : A.tmps[94]?.getD undef = .bool false := hdep 94 (by kernel_rfl)
                refine if_not (by rw [wanted_is (j := 2) (b := true) (by kernel_rfl) (by kernel_rfl) h94]; decide) ?_
                exact hK.out _ _ (Below.refl _ _) trivial
              · intro A wx hR hout hdep K hK
                have h3 : A.tmps[3]?.getD undef = .int .i64 prot := hout 3 (by kernel_rfl)
                have h94 : A.tmps[94]?.getD undef = .bool false := hdep 94 (by kernel_rfl)
                refine if_not (by rw [wanted_is (j := 2) (b := true) (by kernel_rfl) (by kernel_rfl) h94]; decide) ?_
                exact hK.out _ _ (Below.refl _ _) trivial
              · intro A wx hR hout hdep K hK
                have h94 : A.tmps[94]?.getD undef = .bool false := hdep 94 (by kernel_rfl)
                refine if_not (by rw [wanted_is (j := 2) (b := true) (by kernel_rfl) (by kernel_rfl) h94]; decide) ?_
                exact hK.out _ _ (Below.refl _ _) trivial
              · intro A wx hR hout hdep K hK
                have h14 : A.tmps[14]?.getD undef = .pointer (some ⟨wr.heap.size, 0, none⟩) := hout 14 (by kernel_rfl)
                have h94 : A.tmps[94]?.getD undef = .bool false := hdep 94 (by kernel_rfl)
                refine if_not (by rw [wanted_is (j := 2) (b := true) (by kernel_rfl) (by kernel_rfl) h94]; decide) ?_
                exact hK.out _ _ (Below.refl _ _) trivial
              · intro A wx hR hout hdep K hK
                have h94 : A.tmps[94]?.getD undef = .bool false := hdep 94 (by kernel_rfl)
                refine if_not (by rw [wanted_is (j := 2) (b := true) (by kernel_rfl) (by kernel_rfl) h94]; decide) ?_
                exact hK.out _ _ (Below.refl _ _) trivial
              · intro A wx hR hout hdep K hK
                have h94 : A.tmps[94]?.getD undef = .bool false := hdep 94 (by kernel_rfl)
                refine if_not (by rw [wanted_is (j := 2) (b := true) (by kernel_rfl) (by kernel_rfl) h94]; decide) ?_
                exact hK.out _ _ (Below.refl _ _) trivial
              · intro A wx hR hout hdep K hK
                have h94 : A.tmps[94]?.getD undef = .bool false := hdep 94 (by kernel_rfl)
                refine if_not (by rw [wanted_is (j := 2) (b := true) (by kernel_rfl) (by kernel_rfl) h94]; decide) ?_
                exact hK.out _ _ (Below.refl _ _) trivial
              · intro A wx hR hout hdep K hK
                have h15 : A.tmps[15]?.getD undef = .bool false := hout 15 (by kernel_rfl)
                have h94 : A.tmps[94]?.getD undef = .bool false := hdep 94 (by kernel_rfl)
                refine if_not (by rw [wanted_is (j := 2) (b := true) (by kernel_rfl) (by kernel_rfl) h94]; decide) ?_
                exact hK.out _ _ (Below.refl _ _) trivial
              · intro A wx hR hout hdep K hK
                have h94 : A.tmps[94]?.getD undef = .bool false := hdep 94 (by kernel_rfl)
                refine if_not (by rw [wanted_is (j := 2) (b := true) (by kernel_rfl) (by kernel_rfl) h94]; decide) ?_
                exact hK.out _ _ (Below.refl _ _) trivial
              · intro A wx hR hout hdep K hK
                have h94 : A.tmps[94]?.getD undef = .bool false := hdep 94 (by kernel_rfl)
                refine if_not (by rw [wanted_is (j := 2) (b := true) (by kernel_rfl) (by kernel_rfl) h94]; decide) ?_
                exact hK.out _ _ (Below.refl _ _) trivial
              · intro A wx hR hout hdep K hK
                have h94 : A.tmps[94]?.getD undef = .bool false := hdep 94 (by kernel_rfl)
                refine if_yes (by kernel_rfl) ?_
                simp [go_sem, h94, hq1, hq2, hq1', hq2', hv]
                exact hK.out _ _ (Below.refl _ _) rfl
              · intro A wx hR hout hdep K hK
                have h108 : A.tmps[108]?.getD undef = .bool false := hdep 108 (by kernel_rfl)
                refine if_yes (by kernel_rfl) ?_
                simp [go_sem, h108, hq1, hq2, hq1', hq2', hv]
                exact hK.out _ _ (Below.refl _ _) rfl
              · intro A wx hR hout hdep K hK
                have h12 : A.tmps[12]?.getD undef = .int .i64 0 := hout 12 (by kernel_rfl)
                have h109 : A.tmps[109]?.getD undef = .bool false := hdep 109 (by kernel_rfl)
                refine if_yes ((wanted_is (j := 19) (b := false) (by kernel_rfl) (by kernel_rfl) h109).trans rfl) ?_
                simp [go_sem, h12, hq1, hq2, hq1', hq2', hv]
                exact hK.out _ _ (Below.refl _ _) rfl
              · intro A wx hR hout hdep K hK
                have h110 : A.tmps[110]?.getD undef = .int .i64 0 := hdep 110 (by kernel_rfl)
                have h109 : A.tmps[109]?.getD undef = .bool false := hdep 109 (by kernel_rfl)
                refine if_yes ((wanted_is (j := 19) (b := false) (by kernel_rfl) (by kernel_rfl) h109).trans rfl) ?_
                simp [go_sem, h110, hq1, hq2, hq1', hq2', hv]
                exact hK.out _ _ (Below.refl _ _) rfl
              · intro A wx hR hout hdep K hK
                have h111 : A.tmps[111]?.getD undef = .bool true := hdep 111 (by kernel_rfl)
                have h109 : A.tmps[109]?.getD undef = .bool false := hdep 109 (by kernel_rfl)
                refine if_yes ((wanted_is (j := 19) (b := false) (by kernel_rfl) (by kernel_rfl) h109).trans rfl) ?_
                simp [go_sem, h111, hq1, hq2, hq1', hq2', hv]
                exact hK.out _ _ (Below.refl _ _) rfl
              · intro A wx hR hout hdep K hK
                have h11 : A.tmps[11]?.getD undef = .pointer (some ⟨w4.heap.size, 0, none⟩) := hout 11 (by kernel_rfl)
                have h112 : A.tmps[112]?.getD undef = .bool true := hdep 112 (by kernel_rfl)
                refine if_yes ((wanted_is (j := 22) (b := true) (by kernel_rfl) (by kernel_rfl) h112).trans rfl) ?_
                simp [go_sem, h11, hq1, hq2, hq1', hq2', hv]
                exact hK.out _ _ (Below.refl _ _) rfl
              · intro A wx hR hout hdep K hK
                have h113 : A.tmps[113]?.getD undef = .pointer (some ⟨w4.heap.size, 0, none⟩) := hdep 113 (by kernel_rfl)
                have h112 : A.tmps[112]?.getD undef = .bool true := hdep 112 (by kernel_rfl)
                refine if_yes ((wanted_is (j := 22) (b := true) (by kernel_rfl) (by kernel_rfl) h112).trans rfl) ?_
                have l0 := keep_cell hR l0
                have l1 := keep_cell hR l1
                have g0 := keep_cell hR g0
                have g1 := keep_cell hR g1
                have g2 := keep_cell hR g2
                have g3 := keep_cell hR g3
                simp [go_sem, h113, l0, l1, g0, g1, g2, g3, hq1, hq2, hq1', hq2', hv]
                exact hK.out _ _ (Below.refl _ _) rfl
              · intro A wx hR hout hdep K hK
                have h14 : A.tmps[14]?.getD undef = .pointer (some ⟨wr.heap.size, 0, none⟩) := hout 14 (by kernel_rfl)
                have h112 : A.tmps[112]?.getD undef = .bool true := hdep 112 (by kernel_rfl)
                refine if_yes ((wanted_is (j := 22) (b := true) (by kernel_rfl) (by kernel_rfl) h112).trans rfl) ?_
                simp [go_sem, h14, hq1, hq2, hq1', hq2', hv]
                exact hK.out _ _ (Below.refl _ _) rfl
              · intro A wx hR hout hdep K hK
                have h115 : A.tmps[115]?.getD undef = .pointer (some ⟨wr.heap.size, 0, none⟩) := hdep 115 (by kernel_rfl)
                have h112 : A.tmps[112]?.getD undef = .bool true := hdep 112 (by kernel_rfl)
                refine if_yes ((wanted_is (j := 22) (b := true) (by kernel_rfl) (by kernel_rfl) h112).trans rfl) ?_
                have l0 := keep_cell hR l0
                have l1 := keep_cell hR l1
                have g0 := keep_cell hR g0
                have g1 := keep_cell hR g1
                have g2 := keep_cell hR g2
                have g3 := keep_cell hR g3
                simp [go_sem, h115, l0, l1, g0, g1, g2, g3, hq1, hq2, hq1', hq2', hv]
                exact hK.out _ _ (Below.refl _ _) rfl
              · intro A wx hR hout hdep K hK
                have h114 : A.tmps[114]?.getD undef = .agg #[.slice y1 y2 y3, .slice y4 y5 y6, .int .u64 (bs : Int), .slice y7 y8 y9] := hdep 114 (by kernel_rfl)
                have h116 : A.tmps[116]?.getD undef = .int .u32 (p : Int) := hdep 116 (by kernel_rfl)
                have h112 : A.tmps[112]?.getD undef = .bool true := hdep 112 (by kernel_rfl)
                refine if_yes ((wanted_is (j := 22) (b := true) (by kernel_rfl) (by kernel_rfl) h112).trans rfl) ?_
                simp [go_sem, h114, h116, hq1, hq2, hq1', hq2', hv]
                refine (KPy.out p _ (below_tr hb9 (below_tr hbz hR))).mono ?_
                rintro e wG ⟨rfl, hbG⟩
                rw [hpy]
                exact hK.out _ _ hbG rfl
              · intro A wx hR hout hdep K hK
                have h117 : A.tmps[117]?.getD undef = .int .i64 vy := hdep 117 (by kernel_rfl)
                have h112 : A.tmps[112]?.getD undef = .bool true := hdep 112 (by kernel_rfl)
                refine if_yes ((wanted_is (j := 22) (b := true) (by kernel_rfl) (by kernel_rfl) h112).trans rfl) ?_
                simp [go_sem, h117, hq1, hq2, hq1', hq2', hv]
                exact hK.out _ _ (Below.refl _ _) rfl
              · intro A wx hR hout hdep K hK
                have h15 : A.tmps[15]?.getD undef = .bool false := hout 15 (by kernel_rfl)
                have h112 : A.tmps[112]?.getD undef = .bool true := hdep 112 (by kernel_rfl)
                refine if_yes ((wanted_is (j := 22) (b := true) (by kernel_rfl) (by kernel_rfl) h112).trans rfl) ?_
                simp [go_sem, h15, hq1, hq2, hq1', hq2', hv]
                exact hK.out _ _ (Below.refl _ _) rfl
              · intro A wx hR hout hdep K hK
                have h118 : A.tmps[118]?.getD undef = .bool true := hdep 118 (by kernel_rfl)
                have h119 : A.tmps[119]?.getD undef = .bool false := hdep 119 (by kernel_rfl)
                have h112 : A.tmps[112]?.getD undef = .bool true := hdep 112 (by kernel_rfl)
                refine if_yes ((wanted_is (j := 22) (b := true) (by kernel_rfl) (by kernel_rfl) h112).trans rfl) ?_
                simp [go_sem, h118, h119, hq1, hq2, hq1', hq2', hv]
                exact hK.out _ _ (Below.refl _ _) rfl
              · intro A wx hR hout hdep K hK
                have h112 : A.tmps[112]?.getD undef = .bool true := hdep 112 (by kernel_rfl)
                have h120 : A.tmps[120]?.getD undef = .bool false := hdep 120 (by kernel_rfl)
                have h109 : A.tmps[109]?.getD undef = .bool false := hdep 109 (by kernel_rfl)
                refine if_yes ((wanted_is (j := 19) (b := false) (by kernel_rfl) (by kernel_rfl) h109).trans rfl) ?_
                simp [go_sem, h112, h120, hq1, hq2, hq1', hq2', hv]
                exact hK.out _ _ (Below.refl _ _) rfl
              · intro A wx hR hout hdep K hK
                have h109 : A.tmps[109]?.getD undef = .bool false := hdep 109 (by kernel_rfl)
                have h121 : A.tmps[121]?.getD undef = .bool false := hdep 121 (by kernel_rfl)
                refine if_yes (by kernel_rfl) ?_
                simp [go_sem, h109, h121, hq1, hq2, hq1', hq2', hv]
                exact hK.out _ _ (Below.refl _ _) rfl
              simp only [putSl, Act.put, List.setIfInBounds_toArray, List.set_cons_zero, List.set_cons_succ]
              have hz : f 122 = .bool false := hf 122 (by kernel_rfl)
              rw [hz]
              have hbz := below_tr hbz hR
              clear hf hz
              go_wp2
              go_roundw
              case rel => exact ⟨k + 1, by omega, by go_num, hbz⟩
              case measure => simp [intOf]; omega
        · obtain rfl : k = s8 := by omega
          have HB : Hid (Below w.heap.size w wr) := below_tr HB.out hbr
          clear hbr HX BSr BXr BYr
          go_wp2_with fail
          refine (awake10 wr).mono ?_
          rintro e wz ⟨rfl, hbz⟩
          have HBz : Hid (Below w.heap.size w wz) := below_tr HB.out hbz
          go_wp2
          go_ret
          exact ⟨rfl, HBz.out⟩
    · skip
      have hq1 : (err1 != 0) = true := by simp [h1]
      have hq1' : (err1 == 0) = false := by simp [h1]
      go_wp2_with fail
      refine (K19x.out h1 _ hb9).mono ?_
      rintro e w5 ⟨rfl, hbq⟩
      have BS := BS.keep hbq
      have BX := BX.keep hbq
      have BY := BY.keep hbq
      have HB : Hid (Below w.heap.size w w5) := below_tr HB.out hbq
      have HSL : Hid (SlG w5 (.slice s1 s2 s3) (.slice s4 s5 s6) (.slice s7 s8 s9) ms cs ps) := HSL.out.keep hbq
      have hb9 := below_tr hb9 hbq
      obtain ⟨c0, c1, c2, c3, c4, c5⟩ := BS.cells
      obtain ⟨d0, d1, d2, d3, d4, d5⟩ := BX.cells
      obtain ⟨g0, g1, g2, g3, g4, g5⟩ := BY.cells
      clear hbq
      have hq2 : (err2 != 0) = true := by simp [h2]
      have hq2' : (err2 == 0) = false := by simp [h2]
      go_wp2_with fail
      refine (K19y.out h2 _ hb9).mono ?_
      rintro e w6 ⟨rfl, hbq⟩
      have BS := BS.keep hbq
      have BX := BX.keep hbq
      have BY := BY.keep hbq
      have HB : Hid (Below w.heap.size w w6) := below_tr HB.out hbq
      have HSL : Hid (SlG w6 (.slice s1 s2 s3) (.slice s4 s5 s6) (.slice s7 s8 s9) ms cs ps) := HSL.out.keep hbq
      have hb9 := below_tr hb9 hbq
      obtain ⟨c0, c1, c2, c3, c4, c5⟩ := BS.cells
      obtain ⟨d0, d1, d2, d3, d4, d5⟩ := BX.cells
      obtain ⟨g0, g1, g2, g3, g4, g5⟩ := BY.cells
      clear hbq
      clear hXb hX4 i0 i1 i2 i3 i4 i5 j0 j1 j2 j3 j4 j5
      obtain ⟨W5, rfl⟩ : ∃ z, z = w6 := ⟨_, rfl⟩
      have HX : Hid (∀ i (h : i < ps.length), ∃ b o, s7 = some ⟨b, o, none⟩ ∧ W5.cell? ⟨b, o + i * 2, none⟩ = some (.int .u32 (ps[i].1 : Int)) ∧ W5.cell? ⟨b, o + i * 2 + 1, none⟩ = some (.int .i64 ps[i].2)) := by
        obtain ⟨ao, cap, e, _, _, _, g⟩ := HSL.out.2.2
        cases e
        exact g
      go_wp2
      go_loopw [73] (fun i wr => ∃ k : Nat, k ≤ s8 ∧ i = .int .i64 (k : Int) ∧ Below W5.heap.size W5 wr) (fun i _ => s8 - (intOf i).toNat)
      case atStart => exact ⟨0, Nat.zero_le _, rfl, Below.refl _ _⟩
      case round =>
        obtain ⟨k, hk, rfl, hbr⟩ := hrel
        have BSr := BS.keep hbr
        have BXr := BX.keep hbr
        have BYr := BY.keep hbr
        obtain ⟨c0, c1, c2, c3, c4, c5⟩ := BSr.cells
        obtain ⟨d0, d1, d2, d3, d4, d5⟩ := BXr.cells
        obtain ⟨g0, g1, g2, g3, g4, g5⟩ := BYr.cells
        by_cases hkl : k < s8
        · obtain ⟨b, o, rfl, q0, q1⟩ := HX.out k (by rw [← HS8.out]; exact hkl)
          have e0' := keep_cell hbr q0
          have e1' := keep_cell hbr q1
          have hmem := List.getElem_mem (by rw [← HS8.out]; exact hkl : k < ps.length)
          have hr0 := (HQ.out.1.pg _ hmem).2.1
          have hp0 := (HQ.out.1.pg _ hmem).1
          have hr7 := (HQ.out.1.pg _ hmem).2.2.1
          generalize ps[k].1 = p at e0' hp0 
          generalize ps[k].2 = r at e1' hr0 hr7 
          have hwr : (Lit.int .i64 r).wf = true := by simp [Lit.wf, IntKind.min, IntKind.max, IntKind.signed, IntKind.bits]; omega
          clear q0 q1 hmem
          obtain ⟨W5', hW5', hb5, hsz5, l0, l1, _, _⟩ := box2 wr (.int .u32 (p : Int)) (.int .i64 r) 53
          have d0 := keep_cell hb5 d0
          have d1 := keep_cell hb5 d1
          have d2 := keep_cell hb5 d2
          have d3 := keep_cell hb5 d3
          have g0 := keep_cell hb5 g0
          have g1 := keep_cell hb5 g1
          have g2 := keep_cell hb5 g2
          have g3 := keep_cell hb5 g3
          clear BSr BXr BYr c0 c1 c2 c3 c4 c5 d4 d5 g4 g5
          by_cases hpf : p < fp
          · have hd1 : decide ((fp : Int) ≤ (p : Int)) = false := by simp; omega
            have hd2 : (fp ≤ p) = False := by simp; omega
            have t1 : True := trivial
            have t2 : True := trivial
            have hi : inR a n p = false := by unfold inR; rw [← HFP.out]; simp; omega
            have hv : True := trivial
            clear hi
            clear hpf
            go_wp2
            refine wp_region_slots (R := Ext) [⟨77, fun v _ => v = .pointer (some ⟨wr.heap.size, 0, none⟩), fun _ _ _ _ h => h⟩, ⟨78, fun v _ => v = .int .u32 (p : Int), fun _ _ _ _ h => h⟩, ⟨79, fun v _ => v = .int .u32 (a : Int), fun _ _ _ _ h => h⟩, ⟨80, fun v _ => v = .int .u32 (fp : Int), fun _ _ _ _ h => h⟩, ⟨81, fun v _ => v = .bool false, fun _ _ _ _ h => h⟩, ⟨82, fun v _ => v = .bool false, fun _ _ _ _ h => h⟩, ⟨91, fun v _ => v = .bool false, fun _ _ _ _ h => h⟩, ⟨15, fun v _ => v = .bool false, fun _ _ _ _ h => h⟩] _ (by kernel_rfl) rfl (by kernel_rfl) (Below.drew (Below.refl _ _)) (fun _ _ _ h1 h2 => below_tr h1 h2) (fun QQ => ⟨?_, ?_, ?_, ?_, ?_, ?_, ?_, ?_, ?_, ?_, ?_, ?_, ?_, ?_, ?_, ?_, trivial⟩) (fun f wy hR hf => ?_)
            · intro A wx hR hout hdep K hK
              have h14 : A.tmps[14]?.getD undef = .pointer (some ⟨wr.heap.size, 0, none⟩) := hout 14 (by kernel_rfl)
              refine if_yes (by kernel_rfl) ?_
              simp [go_sem, h14, hd1, hd2, t1, t2, z1, z2, z2', z3]
              exact hK.out _ _ (Below.refl _ _) rfl
            · intro A wx hR hout hdep K hK
              have h77 : A.tmps[77]?.getD undef = .pointer (some ⟨wr.heap.size, 0, none⟩) := hdep 77 (by kernel_rfl)
              refine if_yes (by kernel_rfl) ?_
              have l0 := keep_cell hR l0
              have l1 := keep_cell hR l1
              simp [go_sem, h77, l0, l1, hd1, hd2, t1, t2, z1, z2, z2', z3]
              exact hK.out _ _ (Below.refl _ _) rfl
            · intro A wx hR hout hdep K hK
              have h1 : A.tmps[1]?.getD undef = .int .u32 (a : Int) := hout 1 (by kernel_rfl)
              refine if_yes (by kernel_rfl) ?_
              simp [go_sem, h1, hd1, hd2, t1, t2, z1, z2, z2', z3]
              exact hK.out _ _ (Below.refl _ _) rfl
            · intro A wx hR hout hdep K hK
              have h79 : A.tmps[79]?.getD undef = .int .u32 (a : Int) := hdep 79 (by kernel_rfl)
              refine if_yes (by kernel_rfl) ?_
              simp [go_sem, h79, hd1, hd2, t1, t2, z1, z2, z2', z3]
              exact hK.out _ _ (Below.refl _ _) rfl
            · intro A wx hR hout hdep K hK
              have h78 : A.tmps[78]?.getD undef = .int .u32 (p : Int) := hdep 78 (by kernel_rfl)
              have h80 : A.tmps[80]?.getD undef = .int .u32 (fp : Int) := hdep 80 (by kernel_rfl)
              refine if_yes (by kernel_rfl) ?_
              simp [go_sem, h78, h80, hd1, hd2, t1, t2, z1, z2, z2', z3]
              exact hK.out _ _ (Below.refl _ _) rfl
            · intro A wx hR hout hdep K hK
              have h81 : A.tmps[81]?.getD undef = .bool false := hdep 81 (by kernel_rfl)
              refine if_yes (by kernel_rfl) ?_
              simp [go_sem, h81, hd1, hd2, t1, t2, z1, z2, z2', z3]
              exact hK.out _ _ (Below.refl _ _) rfl
            · intro A wx hR hout hdep K hK
              have h14 : A.tmps[14]?.getD undef = .pointer (some ⟨wr.heap.size, 0, none⟩) := hout 14 (by kernel_rfl)
              have h82 : A.tmps[82]?.getD undef = .bool false := hdep 82 (by kernel_rfl)
              refine if_not (by rw [wanted_is (j := 5) (b := true) (by kernel_rfl) (by kernel_rfl) h82]; decide) ?_
              exact hK.out _ _ (Below.refl _ _) trivial
            · intro A wx hR hout hdep K hK
              have h82 : A.tmps[82]?.getD undef = .bool false := hdep 82 (by kernel_rfl)
              refine if_not (by rw [wanted_is (j := 5) (b := true) (by kernel_rfl) (by kernel_rfl) h82]; decide) ?_
              exact hK.out _ _ (Below.refl _ _) trivial
            · intro A wx hR hout hdep K hK
              have h1 : A.tmps[1]?.getD undef = .int .u32 (a : Int) := hout 1 (by kernel_rfl)
              have h82 : A.tmps[82]?.getD undef = .bool false := hdep 82 (by kernel_rfl)
              refine if_not (by rw [wanted_is (j := 5) (b := true) (by kernel_rfl) (by kernel_rfl) h82]; decide) ?_
              exact hK.out _ _ (Below.refl _ _) trivial
            · intro A wx hR hout hdep K hK
              have h82 : A.tmps[82]?.getD undef = .bool false := hdep 82 (by kernel_rfl)
              refine if_not (by rw [wanted_is (j := 5) (b := true) (by kernel_rfl) (by kernel_rfl) h82]; decide) ?_
              exact hK.out _ _ (Below.refl _ _) trivial
            · intro A wx hR hout hdep K hK
              have h82 : A.tmps[82]?.getD undef = .bool false := hdep 82 (by kernel_rfl)
              refine if_not (by rw [wanted_is (j := 5) (b := true) (by kernel_rfl) (by kernel_rfl) h82]; decide) ?_
              exact hK.out _ _ (Below.refl _ _) trivial
            · intro A wx hR hout hdep K hK
              have h2 : A.tmps[2]?.getD undef = .int .u32 (n : Int) := hout 2 (by kernel_rfl)
              have h82 : A.tmps[82]?.getD undef = .bool false := hdep 82 (by kernel_rfl)
              refine if_not (by rw [wanted_is (j := 5) (b := true) (by kernel_rfl) (by kernel_rfl) h82]; decide) ?_
              exact hK.out _ _ (Below.refl _ _) trivial
            · intro A wx hR hout hdep K hK
              have h82 : A.tmps[82]?.getD undef = .bool false := hdep 82 (by kernel_rfl)
              refine if_not (by rw [wanted_is (j := 5) (b := true) (by kernel_rfl) (by kernel_rfl) h82]; decide) ?_
              exact hK.out _ _ (Below.refl _ _) trivial
            · intro A wx hR hout hdep K hK
              have h82 : A.tmps[82]?.getD undef = .bool false := hdep 82 (by kernel_rfl)
              refine if_not (by rw [wanted_is (j := 5) (b := true) (by kernel_rfl) (by kernel_rfl) h82]; decide) ?_
              exact hK.out _ _ (Below.refl _ _) trivial
            · intro A wx hR hout hdep K hK
              have h82 : A.tmps[82]?.getD undef = .bool false := hdep 82 (by kernel_rfl)
              refine if_yes (by kernel_rfl) ?_
              simp [go_sem, h82, hd1, hd2, t1, t2, z1, z2, z2', z3]
              exact hK.out _ _ (Below.refl _ _) rfl
            · intro A wx hR hout hdep K hK
              have h91 : A.tmps[91]?.getD undef = .bool false := hdep 91 (by kernel_rfl)
              refine if_yes (by kernel_rfl) ?_
              simp [go_sem, h91, hd1, hd2, t1, t2, z1, z2, z2', z3]
              exact hK.out _ _ (Below.refl _ _) rfl
            simp only [putSl, Act.put, List.setIfInBounds_toArray, List.set_cons_zero, List.set_cons_succ]
            have hz : f 15 = .bool false := hf 15 (by kernel_rfl)
            rw [hz]
            have hbz := below_tr (below_tr hbr hb5) hR
            have l0 := keep_cell hR l0
            have l1 := keep_cell hR l1
            have d0 := keep_cell hR d0
            have d1 := keep_cell hR d1
            have d2 := keep_cell hR d2
            have d3 := keep_cell hR d3
            have g0 := keep_cell hR g0
            have g1 := keep_cell hR g1
            have g2 := keep_cell hR g2
            have g3 := keep_cell hR g3
            clear hf hz hR
            obtain ⟨W6, rfl⟩ : ∃ z, z = wy := ⟨_, rfl⟩
            go_wp2
            refine wp_region_slots (R := Ext) [⟨92, fun v _ => v = .int .i64 err1, fun _ _ _ _ h => h⟩, ⟨93, fun v _ => v = .bool false, fun _ _ _ _ h => h⟩, ⟨94, fun v _ => v = .bool false, fun _ _ _ _ h => h⟩, ⟨108, fun v _ => v = .bool false, fun _ _ _ _ h => h⟩, ⟨109, fun v _ => v = .bool false, fun _ _ _ _ h => h⟩, ⟨110, fun v _ => v = .int .i64 err2, fun _ _ _ _ h => h⟩, ⟨111, fun v _ => v = .bool false, fun _ _ _ _ h => h⟩, ⟨112, fun v _ => v = .bool false, fun _ _ _ _ h => h⟩, ⟨121, fun v _ => v = .bool false, fun _ _ _ _ h => h⟩, ⟨122, fun v _ => v = .bool false, fun _ _ _ _ h => h⟩] _ (by kernel_rfl) rfl (by kernel_rfl) (Below.drew (Below.refl _ _)) (fun _ _ _ h1 h2 => below_tr h1 h2) (fun QQ => ⟨?_, ?_, ?_, ?_, ?_, ?_, ?_, ?_, ?_, ?_, ?_, ?_, ?_, ?_, ?_, ?_, ?_, ?_, ?_, ?_, ?_, ?_, ?_, ?_, ?_, ?_, ?_, ?_, ?_, ?_, ?_, ?_, ?_, trivial⟩) (fun f wy hR hf => ?_)
            · intro A wx hR hout hdep K hK
              have h10 : A.tmps[10]?.getD undef = .int .i64 err1 := hout 10 (by kernel_rfl)
              refine if_yes (by kernel_rfl) ?_
              simp [go_sem, h10, hq1, hq2, hq1', hq2', hv]
              exact hK.out _ _ (Below.refl _ _) rfl
            · intro A wx hR hout hdep K hK
              have h92 : A.tmps[92]?.getD undef = .int .i64 err1 := hdep 92 (by kernel_rfl)
              refine if_yes (by kernel_rfl) ?_
              simp [go_sem, h92, hq1, hq2, hq1', hq2', hv]
              exact hK.out _ _ (Below.refl _ _) rfl
            · intro A wx hR hout hdep K hK
              have h93 : A.tmps[93]?.getD undef = .bool false := hdep 93 (by kernel_rfl)
              refine if_yes (by kernel_rfl) ?_
              simp [go_sem, h93, hq1, hq2, hq1', hq2', hv]
              exact hK.out _ _ (Below.refl _ _) rfl
            · intro A wx hR hout hdep K hK
              have h9 : A.tmps[9]?.getD undef = .pointer (some ⟨w3.heap.size, 0, none⟩) := hout 9 (by kernel_rfl)
              have h94 : A.tmps[94]?.getD undef = .bool false := hdep 94 (by kernel_rfl)
              refine if_not (by rw [wanted_is (j := 2) (b := true) (by kernel_rfl) (by kernel_rfl) h94]; decide) ?_
              exact hK.out _ _ (Below.refl _ _) trivial
            · intro A wx hR hout hdep K hK
              have h94 : A.tmps[94]?.getD undef = .bool false := hdep 94 (by kernel_rfl)
              refine if_not (by rw [wanted_is (j := 2) (b := true) (by kernel_rfl) (by kernel_rfl) h94]; decide) ?_
              exact hK.out _ _ (Below.refl _ _) trivial
            · intro A wx hR hout hdep K hK
              have h14 : A.tmps[14]?.getD undef = .pointer (some ⟨wr.heap.size, 0, none⟩) := hout 14 (by kernel_rfl)
              have h94 : A.tmps[94]?.getD undef = .bool false := hdep 94 (by kernel_rfl)
              refine if_not (by rw [wanted_is (j := 2) (b := true) (by kernel_rfl) (by kernel_rfl) h94]; decide) ?_
              exact hK.out _ _ (Below.refl _ _) trivial
            · intro A wx hR hout hdep K hK
              have h94 : A.tmps[94]?.getD undef = .bool false := hdep 94 (by kernel_rfl)
              refine if_not (by rw [wanted_is (j := 2) (b := true) (by kernel_rfl) (by kernel_rfl) h94]; decide) ?_
              exact hK.out _ _ (Below.refl _ _) trivial
            · intro A wx hR hout hdep K hK
              have h94 : A.tmps[94]?.getD undef = .bool false := hdep 94 (by kernel_rfl)
              refine if_not (by rw [wanted_is (j := 2) (b := true) (by kernel_rfl) (by kernel_rfl) h94]; decide) ?_
              exact hK.out _ _ (Below.refl _ _) trivial
            · intro A wx hR hout hdep K hK
              have h94 : A.tmps[94]?.getD undef = .bool false := hdep 94 (by kernel_rfl)
              refine if_not (by rw [wanted_is (j := 2) (b := true) (by kernel_rfl) (by kernel_rfl) h94]; decide) ?_
              exact hK.out _ _ (Below.refl _ _) trivial
            · intro A wx hR hout hdep K hK
              have h3 : A.tmps[3]?.getD undef = .int .i64 prot := hout 3 (by kernel_rfl)
              have h94 : A.tmps[94]?.getD undef = .bool false := hdep 94 (by kernel_rfl)
              refine if_not (by rw [wanted_is (j := 2) (b := true) (by kernel_rfl) (by kernel_rfl) h94]; decide) ?_
              exact hK.out _ _ (Below.refl _ _) trivial
            · intro A wx hR hout hdep K hK
              have h94 : A.tmps[94]?.getD undef = .bool false := hdep 94 (by kernel_rfl)
              refine if_not (by rw [wanted_is (j := 2) (b := true) (by kernel_rfl) (by kernel_rfl) h94]; decide) ?_
              exact hK.out _ _ (Below.refl _ _) trivial
            · intro A wx hR hout hdep K hK
              have h14 : A.tmps[14]?.getD undef = .pointer (some ⟨wr.heap.size, 0, none⟩) := hout 14 (by kernel_rfl)
              have h94 : A.tmps[94]?.getD undef = .bool false := hdep 94 (by kernel_rfl)
              refine if_not (by rw [wanted_is (j := 2) (b := true) (by kernel_rfl) (by kernel_rfl) h94]; decide) ?_
              exact hK.out _ _ (Below.refl _ _) trivial
            · intro A wx hR hout hdep K hK
              have h94 : A.tmps[94]?.getD undef = .bool false := hdep 94 (by kernel_rfl)
              refine if_not (by rw [wanted_is (j := 2) (b := true) (by kernel_rfl) (by kernel_rfl) h94]; decide) ?_
              exact hK.out _ _ (Below.refl _ _) trivial
            · intro A wx hR hout hdep K hK
              have h94 : A.tmps[94]?.getD undef = .bool false := hdep 94 (by kernel_rfl)
              refine if_not (by rw [wanted_is (j := 2) (b := true) (by kernel_rfl) (by kernel_rfl) h94]; decide) ?_
              exact hK.out _ _ (Below.refl _ _) trivial
            · intro A wx hR hout hdep K hK
              have h94 : A.tmps[94]?.getD undef = .bool false := hdep 94 (by kernel_rfl)
              refine if_not (by rw [wanted_is (j := 2) (b := true) (by kernel_rfl) (by kernel_rfl) h94]; decide) ?_
              exact hK.out _ _ (Below.refl _ _) trivial
            · intro A wx hR hout hdep K hK
              have h15 : A.tmps[15]?.getD undef = .bool false := hout 15 (by kernel_rfl)
              have h94 : A.tmps[94]?.getD undef = .bool false := hdep 94 (by kernel_rfl)
              refine if_not (by rw [wanted_is (j := 2) (b := true) (by kernel_rfl) (by kernel_rfl) h94]; decide) ?_
              exact hK.out _ _ (Below.refl _ _) trivial
            · intro A wx hR hout hdep K hK
              have h94 : A.tmps[94]?.getD undef = .bool false := hdep 94 (by kernel_rfl)
              refine if_not (by rw [wanted_is (j := 2) (b := true) (by kernel_rfl) (by kernel_rfl) h94]; decide) ?_
              exact hK.out _ _ (Below.refl _ _) trivial
            · intro A wx hR hout hdep K hK
              have h94 : A.tmps[94]?.getD undef = .bool false := hdep 94 (by kernel_rfl)
              refine if_not (by rw [wanted_is (j := 2) (b := true) (by kernel_rfl) (by kernel_rfl) h94]; decide) ?_
              exact hK.out _ _ (Below.refl _ _) trivial
            · intro A wx hR hout hdep K hK
              have h94 : A.tmps[94]?.getD undef = .bool false := hdep 94 (by kernel_rfl)
              refine if_yes (by kernel_rfl) ?_
              simp [go_sem, h94, hq1, hq2, hq1', hq2', hv]
              exact hK.out _ _ (Below.refl _ _) rfl
            · intro A wx hR hout hdep K hK
              have h108 : A.tmps[108]?.getD undef = .bool false := hdep 108 (by kernel_rfl)
              refine if_yes (by kernel_rfl) ?_
              simp [go_sem, h108, hq1, hq2, hq1', hq2', hv]
              exact hK.out _ _ (Below.refl _ _) rfl
            · intro A wx hR hout hdep K hK
              have h12 : A.tmps[12]?.getD undef = .int .i64 err2 := hout 12 (by kernel_rfl)
              have h109 : A.tmps[109]?.getD undef = .bool false := hdep 109 (by kernel_rfl)
              refine if_yes ((wanted_is (j := 19) (b := false) (by kernel_rfl) (by kernel_rfl) h109).trans rfl) ?_
              simp [go_sem, h12, hq1, hq2, hq1', hq2', hv]
              exact hK.out _ _ (Below.refl _ _) rfl
            · intro A wx hR hout hdep K hK
              have h110 : A.tmps[110]?.getD undef = .int .i64 err2 := hdep 110 (by kernel_rfl)
              have h109 : A.tmps[109]?.getD undef = .bool false := hdep 109 (by kernel_rfl)
              refine if_yes ((wanted_is (j := 19) (b := false) (by kernel_rfl) (by kernel_rfl) h109).trans rfl) ?_
              simp [go_sem, h110, hq1, hq2, hq1', hq2', hv]
              exact hK.out _ _ (Below.refl _ _) rfl
            · intro A wx hR hout hdep K hK
              have h111 : A.tmps[111]?.getD undef = .bool false := hdep 111 (by kernel_rfl)
              have h109 : A.tmps[109]?.getD undef = .bool false := hdep 109 (by kernel_rfl)
              refine if_yes ((wanted_is (j := 19) (b := false) (by kernel_rfl) (by kernel_rfl) h109).trans rfl) ?_
              simp [go_sem, h111, hq1, hq2, hq1', hq2', hv]
              exact hK.out _ _ (Below.refl _ _) rfl
            · intro A wx hR hout hdep K hK
              have h11 : A.tmps[11]?.getD undef = .pointer (some ⟨w4.heap.size, 0, none⟩) := hout 11 (by kernel_rfl)
              have h112 : A.tmps[112]?.getD undef = .bool false := hdep 112 (by kernel_rfl)
              refine if_not (by rw [wanted_is (j := 22) (b := true) (by kernel_rfl) (by kernel_rfl) h112]; decide) ?_
              exact hK.out _ _ (Below.refl _ _) trivial
            · intro A wx hR hout hdep K hK
              have h112 : A.tmps[112]?.getD undef = .bool false := hdep 112 (by kernel_rfl)
              refine if_not (by rw [wanted_is (j := 22) (b := true) (by kernel_rfl) (by kernel_rfl) h112]; decide) ?_
              exact hK.out _ _ (Below.refl _ _) trivial
            · intro A wx hR hout hdep K hK
              have h14 : A.tmps[14]?.getD undef = .pointer (some ⟨wr.heap.size, 0, none⟩) := hout 14 (by kernel_rfl)
              have h112 : A.tmps[112]?.getD undef = .bool false := hdep 112 (by kernel_rfl)
              refine if_not (by rw [wanted_is (j := 22) (b := true) (by kernel_rfl) (by kernel_rfl) h112]; decide) ?_
              exact hK.out _ _ (Below.refl _ _) trivial
            · intro A wx hR hout hdep K hK
              have h112 : A.tmps[112]?.getD undef = .bool false := hdep 112 (by kernel_rfl)
              refine if_not (by rw [wanted_is (j := 22) (b := true) (by kernel_rfl) (by kernel_rfl) h112]; decide) ?_
              exact hK.out _ _ (Below.refl _ _) trivial
            · intro A wx hR hout hdep K hK
              have h112 : A.tmps[112]?.getD undef = .bool false := hdep 112 (by kernel_rfl)
              refine if_not (by rw [wanted_is (j := 22) (b := true) (by kernel_rfl) (by kernel_rfl) h112]; decide) ?_
              exact hK.out _ _ (Below.refl _ _) trivial
            · intro A wx hR hout hdep K hK
              have h112 : A.tmps[112]?.getD undef = .bool false := hdep 112 (by kernel_rfl)
              refine if_not (by rw [wanted_is (j := 22) (b := true) (by kernel_rfl) (by kernel_rfl) h112]; decide) ?_
              exact hK.out _ _ (Below.refl _ _) trivial
            · intro A wx hR hout hdep K hK
              have h15 : A.tmps[15]?.getD undef = .bool false := hout 15 (by kernel_rfl)
              have h112 : A.tmps[112]?.getD undef = .bool false := hdep 112 (by kernel_rfl)
              refine if_not (by rw [wanted_is (j := 22) (b := true) (by kernel_rfl) (by kernel_rfl) h112]; decide) ?_
              exact hK.out _ _ (Below.refl _ _) trivial
            · intro A wx hR hout hdep K hK
              have h112 : A.tmps[112]?.getD undef = .bool false := hdep 112 (by kernel_rfl)
              refine if_not (by rw [wanted_is (j := 22) (b := true) (by kernel_rfl) (by kernel_rfl) h112]; decide) ?_
              exact hK.out _ _ (Below.refl _ _) trivial
            · intro A wx hR hout hdep K hK
              have h112 : A.tmps[112]?.getD undef = .bool false := hdep 112 (by kernel_rfl)
              have h109 : A.tmps[109]?.getD undef = .bool false := hdep 109 (by kernel_rfl)
              refine if_yes ((wanted_is (j := 19) (b := false) (by kernel_rfl) (by kernel_rfl) h109).trans rfl) ?_
              simp [go_sem, h112, hq1, hq2, hq1', hq2', hv]
              exact hK.out _ _ (Below.refl _ _) rfl
            · intro A wx hR hout hdep K hK
              have h109 : A.tmps[109]?.getD undef = .bool false := hdep 109 (by kernel_rfl)
              have h121 : A.tmps[121]?.getD undef = .bool false := hdep 121 (by kernel_rfl)
              refine if_yes (by kernel_rfl) ?_
              simp [go_sem, h109, h121, hq1, hq2, hq1', hq2', hv]
              exact hK.out _ _ (Below.refl _ _) rfl
            simp only [putSl, Act.put, List.setIfInBounds_toArray, List.set_cons_zero, List.set_cons_succ]
            have hz : f 122 = .bool false := hf 122 (by kernel_rfl)
            rw [hz]
            have hbz := below_tr hbz hR
            clear hf hz
            go_wp2
            go_roundw
            case rel => exact ⟨k + 1, by omega, by go_num, hbz⟩
            case measure => simp [intOf]; omega
          · obtain ⟨q, hq⟩ : ∃ z, z = p - fp := ⟨_, rfl⟩
            have t1 : IntKind.u32.wrap ((p : Int) - (fp : Int)) = (q : Int) := by rw [IntKind.wrap_u32]; omega
            have t2 : ((p : Int) - (fp : Int)) % 4294967296 = (q : Int) := by omega
            have hd1 : (fp ≤ p) = True := by simp; omega
            by_cases hqk : q < kk
            · have hd2 : (q < kk) = True := by simp [hqk]
              have hi : inR a n p = true := by unfold inR; rw [← HFP.out, ← HKK.out]; simp; omega
              have hv : True := trivial
              clear hi
              clear hpf hq hqk
              go_wp2
              refine wp_region_slots (R := Ext) [⟨77, fun v _ => v = .pointer (some ⟨wr.heap.size, 0, none⟩), fun _ _ _ _ h => h⟩, ⟨78, fun v _ => v = .int .u32 (p : Int), fun _ _ _ _ h => h⟩, ⟨79, fun v _ => v = .int .u32 (a : Int), fun _ _ _ _ h => h⟩, ⟨80, fun v _ => v = .int .u32 (fp : Int), fun _ _ _ _ h => h⟩, ⟨81, fun v _ => v = .bool true, fun _ _ _ _ h => h⟩, ⟨82, fun v _ => v = .bool true, fun _ _ _ _ h => h⟩, ⟨83, fun v _ => v = .pointer (some ⟨wr.heap.size, 0, none⟩), fun _ _ _ _ h => h⟩, ⟨84, fun v _ => v = .int .u32 (p : Int), fun _ _ _ _ h => h⟩, ⟨85, fun v _ => v = .int .u32 (a : Int), fun _ _ _ _ h => h⟩, ⟨86, fun v _ => v = .int .u32 (fp : Int), fun _ _ _ _ h => h⟩, ⟨87, fun v _ => v = .int .u32 (q : Int), fun _ _ _ _ h => h⟩, ⟨88, fun v _ => v = .int .u32 (n : Int), fun _ _ _ _ h => h⟩, ⟨89, fun v _ => v = .int .u32 (kk : Int), fun _ _ _ _ h => h⟩, ⟨90, fun v _ => v = .bool true, fun _ _ _ _ h => h⟩, ⟨91, fun v _ => v = .bool true, fun _ _ _ _ h => h⟩, ⟨15, fun v _ => v = .bool true, fun _ _ _ _ h => h⟩] _ (by kernel_rfl) rfl (by kernel_rfl) (Below.drew (Below.refl _ _)) (fun _ _ _ h1 h2 => below_tr h1 h2) (fun QQ => ⟨?_, ?_, ?_, ?_, ?_, ?_, ?_, ?_, ?_, ?_, ?_, ?_, ?_, ?_, ?_, ?_, trivial⟩) (fun f wy hR hf => ?_)
              · intro A wx hR hout hdep K hK
                have h14 : A.tmps[14]?.getD undef = .pointer (some ⟨wr.heap.size, 0, none⟩) := hout 14 (by kernel_rfl)
                refine if_yes (by kernel_rfl) ?_
                simp [go_sem, h14, hd1, hd2, t1, t2, z1, z2, z2', z3]
                exact hK.out _ _ (Below.refl _ _) rfl
              · intro A wx hR hout hdep K hK
                have h77 : A.tmps[77]?.getD undef = .pointer (some ⟨wr.heap.size, 0, none⟩) := hdep 77 (by kernel_rfl)
                refine if_yes (by kernel_rfl) ?_
                have l0 := keep_cell hR l0
                have l1 := keep_cell hR l1
                simp [go_sem, h77, l0, l1, hd1, hd2, t1, t2, z1, z2, z2', z3]
                exact hK.out _ _ (Below.refl _ _) rfl
              · intro A wx hR hout hdep K hK
                have h1 : A.tmps[1]?.getD undef = .int .u32 (a : Int) := hout 1 (by kernel_rfl)
                refine if_yes (by kernel_rfl) ?_
                simp [go_sem, h1, hd1, hd2, t1, t2, z1, z2, z2', z3]
                exact hK.out _ _ (Below.refl _ _) rfl
              · intro A wx hR hout hdep K hK
                have h79 : A.tmps[79]?.getD undef = .int .u32 (a : Int) := hdep 79 (by kernel_rfl)
                refine if_yes (by kernel_rfl) ?_
                simp [go_sem, h79, hd1, hd2, t1, t2, z1, z2, z2', z3]
                exact hK.out _ _ (Below.refl _ _) rfl
              · intro A wx hR hout hdep K hK
                have h78 : A.tmps[78]?.getD undef = .int .u32 (p : Int) := hdep 78 (by kernel_rfl)
                have h80 : A.tmps[80]?.getD undef = .int .u32 (fp : Int) := hdep 80 (by kernel_rfl)
                refine if_yes (by kernel_rfl) ?_
                simp [go_sem, h78, h80, hd1, hd2, t1, t2, z1, z2, z2', z3]
                exact hK.out _ _ (Below.refl _ _) rfl
              · intro A wx hR hout hdep K hK
                have h81 : A.tmps[81]?.getD undef = .bool true := hdep 81 (by kernel_rfl)
                refine if_yes (by kernel_rfl) ?_
                simp [go_sem, h81, hd1, hd2, t1, t2, z1, z2, z2', z3]
                exact hK.out _ _ (Below.refl _ _) rfl
              · intro A wx hR hout hdep K hK
                have h14 : A.tmps[14]?.getD undef = .pointer (some ⟨wr.heap.size, 0, none⟩) := hout 14 (by kernel_rfl)
                have h82 : A.tmps[82]?.getD undef = .bool true := hdep 82 (by kernel_rfl)
                refine if_yes ((wanted_is (j := 5) (b := true) (by kernel_rfl) (by kernel_rfl) h82).trans rfl) ?_
                simp [go_sem, h14, hd1, hd2, t1, t2, z1, z2, z2', z3]
                exact hK.out _ _ (Below.refl _ _) rfl
              · intro A wx hR hout hdep K hK
                have h83 : A.tmps[83]?.getD undef = .pointer (some ⟨wr.heap.size, 0, none⟩) := hdep 83 (by kernel_rfl)
                have h82 : A.tmps[82]?.getD undef = .bool true := hdep 82 (by kernel_rfl)
                refine if_yes ((wanted_is (j := 5) (b := true) (by kernel_rfl) (by kernel_rfl) h82).trans rfl) ?_
                have l0 := keep_cell hR l0
                have l1 := keep_cell hR l1
                simp [go_sem, h83, l0, l1, hd1, hd2, t1, t2, z1, z2, z2', z3]
                exact hK.out _ _ (Below.refl _ _) rfl
              · intro A wx hR hout hdep K hK
                have h1 : A.tmps[1]?.getD undef = .int .u32 (a : Int) := hout 1 (by kernel_rfl)
                have h82 : A.tmps[82]?.getD undef = .bool true := hdep 82 (by kernel_rfl)
                refine if_yes ((wanted_is (j := 5) (b := true) (by kernel_rfl) (by kernel_rfl) h82).trans rfl) ?_
                simp [go_sem, h1, hd1, hd2, t1, t2, z1, z2, z2', z3]
                exact hK.out _ _ (Below.refl _ _) rfl
              · intro A wx hR hout hdep K hK
                have h85 : A.tmps[85]?.getD undef = .int .u32 (a : Int) := hdep 85 (by kernel_rfl)
                have h82 : A.tmps[82]?.getD undef = .bool true := hdep 82 (by kernel_rfl)
                refine if_yes ((wanted_is (j := 5) (b := true) (by kernel_rfl) (by kernel_rfl) h82).trans rfl) ?_
                simp [go_sem, h85, hd1, hd2, t1, t2, z1, z2, z2', z3]
                exact hK.out _ _ (Below.refl _ _) rfl
              · intro A wx hR hout hdep K hK
                have h84 : A.tmps[84]?.getD undef = .int .u32 (p : Int) := hdep 84 (by kernel_rfl)
                have h86 : A.tmps[86]?.getD undef = .int .u32 (fp : Int) := hdep 86 (by kernel_rfl)
                have h82 : A.tmps[82]?.getD undef = .bool true := hdep 82 (by kernel_rfl)
                refine if_yes ((wanted_is (j := 5) (b := true) (by kernel_rfl) (by kernel_rfl) h82).trans rfl) ?_
                simp [go_sem, h84, h86, hd1, hd2, t1, t2, z1, z2, z2', z3]
                exact hK.out _ _ (Below.refl _ _) rfl
              · intro A wx hR hout hdep K hK
                have h2 : A.tmps[2]?.getD undef = .int .u32 (n : Int) := hout 2 (by kernel_rfl)
                have h82 : A.tmps[82]?.getD undef = .bool true := hdep 82 (by kernel_rfl)
                refine if_yes ((wanted_is (j := 5) (b := true) (by kernel_rfl) (by kernel_rfl) h82).trans rfl) ?_
                simp [go_sem, h2, hd1, hd2, t1, t2, z1, z2, z2', z3]
                exact hK.out _ _ (Below.refl _ _) rfl
              · intro A wx hR hout hdep K hK
                have h88 : A.tmps[88]?.getD undef = .int .u32 (n : Int) := hdep 88 (by kernel_rfl)
                have h82 : A.tmps[82]?.getD undef = .bool true := hdep 82 (by kernel_rfl)
                refine if_yes ((wanted_is (j := 5) (b := true) (by kernel_rfl) (by kernel_rfl) h82).trans rfl) ?_
                simp [go_sem, h88, hd1, hd2, t1, t2, z1, z2, z2', z3]
                refine (K20.out wx).mono ?_
                rintro e wG ⟨rfl, rfl⟩
                exact hK.out _ _ (Below.refl _ _) rfl
              · intro A wx hR hout hdep K hK
                have h87 : A.tmps[87]?.getD undef = .int .u32 (q : Int) := hdep 87 (by kernel_rfl)
                have h89 : A.tmps[89]?.getD undef = .int .u32 (kk : Int) := hdep 89 (by kernel_rfl)
                have h82 : A.tmps[82]?.getD undef = .bool true := hdep 82 (by kernel_rfl)
                refine if_yes ((wanted_is (j := 5) (b := true) (by kernel_rfl) (by kernel_rfl) h82).trans rfl) ?_
                simp [go_sem, h87, h89, hd1, hd2, t1, t2, z1, z2, z2', z3]
                exact hK.out _ _ (Below.refl _ _) rfl
              · intro A wx hR hout hdep K hK
                have h82 : A.tmps[82]?.getD undef = .bool true := hdep 82 (by kernel_rfl)
                have h90 : A.tmps[90]?.getD undef = .bool true := hdep 90 (by kernel_rfl)
                refine if_yes (by kernel_rfl) ?_
                simp [go_sem, h82, h90, hd1, hd2, t1, t2, z1, z2, z2', z3]
                exact hK.out _ _ (Below.refl _ _) rfl
              · intro A wx hR hout hdep K hK
                have h91 : A.tmps[91]?.getD undef = .bool true := hdep 91 (by kernel_rfl)
                refine if_yes (by kernel_rfl) ?_
                simp [go_sem, h91, hd1, hd2, t1, t2, z1, z2, z2', z3]
                exact hK.out _ _ (Below.refl _ _) rfl
              simp only [putSl, Act.put, List.setIfInBounds_toArray, List.set_cons_zero, List.set_cons_succ]
              have hz : f 15 = .bool true := hf 15 (by kernel_rfl)
              rw [hz]
              have hbz := below_tr (below_tr hbr hb5) hR
              have l0 := keep_cell hR l0
              have l1 := keep_cell hR l1
              have d0 := keep_cell hR d0
              have d1 := keep_cell hR d1
              have d2 := keep_cell hR d2
              have d3 := keep_cell hR d3
              have g0 := keep_cell hR g0
              have g1 := keep_cell hR g1
              have g2 := keep_cell hR g2
              have g3 := keep_cell hR g3
              clear hf hz hR
              obtain ⟨W6, rfl⟩ : ∃ z, z = wy := ⟨_, rfl⟩
              go_wp2
              refine wp_region_slots (R := Ext) [⟨92, fun v _ => v = .int .i64 err1, fun _ _ _ _ h => h⟩, ⟨93, fun v _ => v = .bool false, fun _ _ _ _ h => h⟩, ⟨94, fun v _ => v = .bool false, fun _ _ _ _ h => h⟩, ⟨108, fun v _ => v = .bool false, fun _ _ _ _ h => h⟩, ⟨109, fun v _ => v = .bool false, fun _ _ _ _ h => h⟩, ⟨110, fun v _ => v = .int .i64 err2, fun _ _ _ _ h => h⟩, ⟨111, fun v _ => v = .bool false, fun _ _ _ _ h => h⟩, ⟨112, fun v _ => v = .bool false, fun _ _ _ _ h => h⟩, ⟨121, fun v _ => v = .bool false, fun _ _ _ _ h => h⟩, ⟨122, fun v _ => v = .bool false, fun _ _ _ _ h => h⟩] _ (by kernel_rfl) rfl (by kernel_rfl) (Below.drew (Below.refl _ _)) (fun _ _ _ h1 h2 => below_tr h1 h2) (fun QQ => ⟨?_, ?_, ?_, ?_, ?_, ?_, ?_, ?_, ?_, ?_, ?_, ?_, ?_, ?_, ?_, ?_, ?_, ?_, ?_, ?_, ?_, ?_, ?_, ?_, ?_, ?_, ?_, ?_, ?_, ?_, ?_, ?_, ?_, trivial⟩) (fun f wy hR hf => ?_)
              · intro A wx hR hout hdep K hK
                have h10 : A.tmps[10]?.getD undef = .int .i64 err1 := hout 10 (by kernel_rfl)
                refine if_yes (by kernel_rfl) ?_
                simp [go_sem, h10, hq1, hq2, hq1', hq2', hv]
                exact hK.out _ _ (Below.refl _ _) rfl
              · intro A wx hR hout hdep K hK
                have h92 : A.tmps[92]?.getD undef = .int .i64 err1 := hdep 92 (by kernel_rfl)
                refine if_yes (by kernel_rfl) ?_
                simp [go_sem, h92, hq1, hq2, hq1', hq2', hv]
                exact hK.out _ _ (Below.refl _ _) rfl
              · intro A wx hR hout hdep K hK
                have h93 : A.tmps[93]?.getD undef = .bool false := hdep 93 (by kernel_rfl)
                refine if_yes (by kernel_rfl) ?_
                simp [go_sem, h93, hq1, hq2, hq1', hq2', hv]
                exact hK.out _ _ (Below.refl _ _) rfl
              · intro A wx hR hout hdep K hK
                have h9 : A.tmps[9]?.getD undef = .pointer (some ⟨w3.heap.size, 0, none⟩) := hout 9 (by kernel_rfl)
                have h94 : A.tmps[94]?.getD undef = .bool false := hdep 94 (by kernel_rfl)
                refine if_not (by rw [wanted_is (j := 2) (b := true) (by kernel_rfl) (by kernel_rfl) h94]; decide) ?_
                exact hK.out _ _ (Below.refl _ _) trivial
              · intro A wx hR hout hdep K hK
                have h94 : A.tmps[94]?.getD undef = .bool false := hdep 94 (by kernel_rfl)
                refine if_not (by rw [wanted_is (j := 2) (b := true) (by kernel_rfl) (by kernel_rfl) h94]; decide) ?_
                exact hK.out _ _ (Below.refl _ _) trivial
              · intro A wx hR hout hdep K hK
                have h14 : A.tmps[14]?.getD undef = .pointer (some ⟨wr.heap.size, 0, none⟩) := hout 14 (by kernel_rfl)
                have h94 : A.tmps[94]?.getD undef = .bool false := hdep 94 (by kernel_rfl)
                refine if_not (by rw [wanted_is (j := 2) (b := true) (by kernel_rfl) (by kernel_rfl) h94]; decide) ?_
                exact hK.out _ _ (Below.refl _ _) trivial
              · intro A wx hR hout hdep K hK
                have h94 : A.tmps[94]?.getD undef = .bool false := hdep 94 (by kernel_rfl)
                refine if_not (by rw [wanted_is (j := 2) (b := true) (by kernel_rfl) (by kernel_rfl) h94]; decide) ?_
                exact hK.out _ _ (Below.refl _ _) trivial
              · intro A wx hR hout hdep K hK
                have h94 : A.tmps[94]?.getD undef = .bool false := hdep 94 (by kernel_rfl)
                refine if_not (by rw [wanted_is (j := 2) (b := true) (by kernel_rfl) (by kernel_rfl) h94]; decide) ?_
                exact hK.out _ _ (Below.refl _ _) trivial
              · intro A wx hR hout hdep K hK
                have h94 : A.tmps[94]?.getD undef = .bool false := hdep 94 (by kernel_rfl)
                refine if_not (by rw [wanted_is (j := 2) (b := true) (by kernel_rfl) (by kernel_rfl) h94]; decide) ?_
                exact hK.out _ _ (Below.refl _ _) trivial
              · intro A wx hR hout hdep K hK
                have h3 : A.tmps[3]?.getD undef = .int .i64 prot := hout 3 (by kernel_rfl)
                have h94 : A.tmps[94]?.getD undef = .bool false := hdep 94 (by kernel_rfl)
                refine if_not (by rw [wanted_is (j := 2) (b := true) (by kernel_rfl) (by kernel_rfl) h94]; decide) ?_
                exact hK.out _ _ (Below.refl _ _) trivial
              · intro A wx hR hout hdep K hK
                have h94 : A.tmps[94]?.getD undef = .bool false := hdep 94 (by kernel_rfl)
                refine if_not (by rw [wanted_is (j := 2) (b := true) (by kernel_rfl) (by kernel_rfl) h94]; decide) ?_
                exact hK.out _ _ (Below.refl _ _) trivial
              · intro A wx hR hout hdep K hK
                have h14 : A.tmps[14]?.getD undef = .pointer (some ⟨wr.heap.size, 0, none⟩) := hout 14 (by kernel_rfl)
                have h94 : A.tmps[94]?.getD undef = .bool false := hdep 94 (by kernel_rfl)
                refine if_not (by rw [wanted_is (j := 2) (b := true) (by kernel_rfl) (by kernel_rfl) h94]; decide) ?_
                exact hK.out _ _ (Below.refl _ _) trivial
              · intro A wx hR hout hdep K hK
                have h94 : A.tmps[94]?.getD undef = .bool false := hdep 94 (by kernel_rfl)
                refine if_not (by rw [wanted_is (j := 2) (b := true) (by kernel_rfl) (by kernel_rfl) h94]; decide) ?_
                exact hK.out _ _ (Below.refl _ _) trivial
              · intro A wx hR hout hdep K hK
                have h94 : A.tmps[94]?.getD undef = .bool false := hdep 94 (by kernel_rfl)
                refine if_not (by rw [wanted_is (j := 2) (b := true) (by kernel_rfl) (by kernel_rfl) h94]; decide) ?_
                exact hK.out _ _ (Below.refl _ _) trivial
              · intro A wx hR hout hdep K hK
                have h94 : A.tmps[94]?.getD undef = .bool false := hdep 94 (by kernel_rfl)
                refine if_not (by rw [wanted_is (j := 2) (b := true) (by kernel_rfl) (by kernel_rfl) h94]; decide) ?_
                exact hK.out _ _ (Below.refl _ _) trivial
              · intro A wx hR hout hdep K hK
                have h15 : A.tmps[15]?.getD undef = .bool true := hout 15 (by kernel_rfl)
                have h94 : A.tmps[94]?.getD undef = .bool false := hdep 94 (by kernel_rfl)
                refine if_not (by rw [wanted_is (j := 2) (b := true) (by kernel_rfl) (by kernel_rfl) h94]; decide) ?_
                exact hK.out _ _ (Below.refl _ _) trivial
              · intro A wx hR hout hdep K hK
                have h94 : A.tmps[94]?.getD undef = .bool false := hdep 94 (by kernel_rfl)
                refine if_not (by rw [wanted_is (j := 2) (b := true) (by kernel_rfl) (by kernel_rfl) h94]; decide) ?_
                exact hK.out _ _ (Below.refl _ _) trivial
              · intro A wx hR hout hdep K hK
                have h94 : A.tmps[94]?.getD undef = .bool false := hdep 94 (by kernel_rfl)
                refine if_not (by rw [wanted_is (j := 2) (b := true) (by kernel_rfl) (by kernel_rfl) h94]; decide) ?_
                exact hK.out _ _ (Below.refl _ _) trivial
              · intro A wx hR hout hdep K hK
                have h94 : A.tmps[94]?.getD undef = .bool false := hdep 94 (by kernel_rfl)
                refine if_yes (by kernel_rfl) ?_
                simp [go_sem, h94, hq1, hq2, hq1', hq2', hv]
                exact hK.out _ _ (Below.refl _ _) rfl
              · intro A wx hR hout hdep K hK
                have h108 : A.tmps[108]?.getD undef = .bool false := hdep 108 (by kernel_rfl)
                refine if_yes (by kernel_rfl) ?_
                simp [go_sem, h108, hq1, hq2, hq1', hq2', hv]
                exact hK.out _ _ (Below.refl _ _) rfl
              · intro A wx hR hout hdep K hK
                have h12 : A.tmps[12]?.getD undef = .int .i64 err2 := hout 12 (by kernel_rfl)
                have h109 : A.tmps[109]?.getD undef = .bool false := hdep 109 (by kernel_rfl)
                refine if_yes ((wanted_is (j := 19) (b := false) (by kernel_rfl) (by kernel_rfl) h109).trans rfl) ?_
                simp [go_sem, h12, hq1, hq2, hq1', hq2', hv]
                exact hK.out _ _ (Below.refl _ _) rfl
              · intro A wx hR hout hdep K hK
                have h110 : A.tmps[110]?.getD undef = .int .i64 err2 := hdep 110 (by kernel_rfl)
                have h109 : A.tmps[109]?.getD undef = .bool false := hdep 109 (by kernel_rfl)
                refine if_yes ((wanted_is (j := 19) (b := false) (by kernel_rfl) (by kernel_rfl) h109).trans rfl) ?_
                simp [go_sem, h110, hq1, hq2, hq1', hq2', hv]
                exact hK.out _ _ (Below.refl _ _) rfl
              · intro A wx hR hout hdep K hK
                have h111 : A.tmps[111]?.getD undef = .bool false := hdep 111 (by kernel_rfl)
                have h109 : A.tmps[109]?.getD undef = .bool false := hdep 109 (by kernel_rfl)
                refine if_yes ((wanted_is (j := 19) (b := false) (by kernel_rfl) (by kernel_rfl) h109).trans rfl) ?_
                simp [go_sem, h111, hq1, hq2, hq1', hq2', hv]
                exact hK.out _ _ (Below.refl _ _) rfl
              · intro A wx hR hout hdep K hK
                have h11 : A.tmps[11]?.getD undef = .pointer (some ⟨w4.heap.size, 0, none⟩) := hout 11 (by kernel_rfl)
                have h112 : A.tmps[112]?.getD undef = .bool false := hdep 112 (by kernel_rfl)
                refine if_not (by rw [wanted_is (j := 22) (b := true) (by kernel_rfl) (by kernel_rfl) h112]; decide) ?_
                exact hK.out _ _ (Below.refl _ _) trivial
              · intro A wx hR hout hdep K hK
                have h112 : A.tmps[112]?.getD undef = .bool false := hdep 112 (by kernel_rfl)
                refine if_not (by rw [wanted_is (j := 22) (b := true) (by kernel_rfl) (by kernel_rfl) h112]; decide) ?_
                exact hK.out _ _ (Below.refl _ _) trivial
              · intro A wx hR hout hdep K hK
                have h14 : A.tmps[14]?.getD undef = .pointer (some ⟨wr.heap.size, 0, none⟩) := hout 14 (by kernel_rfl)
                have h112 : A.tmps[112]?.getD undef = .bool false := hdep 112 (by kernel_rfl)
                refine if_not (by rw [wanted_is (j := 22) (b := true) (by kernel_rfl) (by kernel_rfl) h112]; decide) ?_
                exact hK.out _ _ (Below.refl _ _) trivial
              · intro A wx hR hout hdep K hK
                have h112 : A.tmps[112]?.getD undef = .bool false := hdep 112 (by kernel_rfl)
                refine if_not (by rw [wanted_is (j := 22) (b := true) (by kernel_rfl) (by kernel_rfl) h112]; decide) ?_
                exact hK.out _ _ (Below.refl _ _) trivial
              · intro A wx hR hout hdep K hK
                have h112 : A.tmps[112]?.getD undef = .bool false := hdep 112 (by kernel_rfl)
                refine if_not (by rw [wanted_is (j := 22) (b := true) (by kernel_rfl) (by kernel_rfl) h112]; decide) ?_
                exact hK.out _ _ (Below.refl _ _) trivial
              · intro A wx hR hout hdep K hK
                have h112 : A.tmps[112]?.getD undef = .bool false := hdep 112 (by kernel_rfl)
                refine if_not (by rw [wanted_is (j := 22) (b := true) (by kernel_rfl) (by kernel_rfl) h112]; decide) ?_
                exact hK.out _ _ (Below.refl _ _) trivial
              · intro A wx hR hout hdep K hK
                have h15 : A.tmps[15]?.getD undef = .bool true := hout 15 (by kernel_rfl)
                have h112 : A.tmps[112]?.getD undef = .bool false := hdep 112 (by kernel_rfl)
                refine if_not (by rw [wanted_is (j := 22) (b := true) (by kernel_rfl) (by kernel_rfl) h112]; decide) ?_
                exact hK.out _ _ (Below.refl _ _) trivial
              · intro A wx hR hout hdep K hK
                have h112 : A.tmps[112]?.getD undef = .bool false := hdep 112 (by kernel_rfl)
                refine if_not (by rw [wanted_is (j := 22) (b := true) (by kernel_rfl) (by kernel_rfl) h112]; decide) ?_
                exact hK.out _ _ (Below.refl _ _) trivial
              · intro A wx hR hout hdep K hK
                have h112 : A.tmps[112]?.getD undef = .bool false := hdep 112 (by kernel_rfl)
                have h109 : A.tmps[109]?.getD undef = .bool false := hdep 109 (by kernel_rfl)
                refine if_yes ((wanted_is (j := 19) (b := false) (by kernel_rfl) (by kernel_rfl) h109).trans rfl) ?_
                simp [go_sem, h112, hq1, hq2, hq1', hq2', hv]
                exact hK.out _ _ (Below.refl _ _) rfl
              · intro A wx hR hout hdep K hK
                have h109 : A.tmps[109]?.getD undef = .bool false := hdep 109 (by kernel_rfl)
                have h121 : A.tmps[121]?.getD undef = .bool false := hdep 121 (by kernel_rfl)
                refine if_yes (by kernel_rfl) ?_
                simp [go_sem, h109, h121, hq1, hq2, hq1', hq2', hv]
                exact hK.out _ _ (Below.refl _ _) rfl
              simp only [putSl, Act.put, List.setIfInBounds_toArray, List.set_cons_zero, List.set_cons_succ]
              have hz : f 122 = .bool false := hf 122 (by kernel_rfl)
              rw [hz]
              have hbz := below_tr hbz hR
              clear hf hz
              go_wp2
              go_roundw
              case rel => exact ⟨k + 1, by omega, by go_num, hbz⟩
              case measure => simp [intOf]; omega
            · have hd2 : (q < kk) = False := by simp [hqk]
              have hi : inR a n p = false := by unfold inR; rw [← HFP.out, ← HKK.out]; simp; omega
              have hv : True := trivial
              clear hi
              clear hpf hq hqk
              go_wp2
              refine wp_region_slots (R := Ext) [⟨77, fun v _ => v = .pointer (some ⟨wr.heap.size, 0, none⟩), fun _ _ _ _ h => h⟩, ⟨78, fun v _ => v = .int .u32 (p : Int), fun _ _ _ _ h => h⟩, ⟨79, fun v _ => v = .int .u32 (a : Int), fun _ _ _ _ h => h⟩, ⟨80, fun v _ => v = .int .u32 (fp : Int), fun _ _ _ _ h => h⟩, ⟨81, fun v _ => v = .bool true, fun _ _ _ _ h => h⟩, ⟨82, fun v _ => v = .bool true, fun _ _ _ _ h => h⟩, ⟨83, fun v _ => v = .pointer (some ⟨wr.heap.size, 0, none⟩), fun _ _ _ _ h => h⟩, ⟨84, fun v _ => v = .int .u32 (p : Int), fun _ _ _ _ h => h⟩, ⟨85, fun v _ => v = .int .u32 (a : Int), fun _ _ _ _ h => h⟩, ⟨86, fun v _ => v = .int .u32 (fp : Int), fun _ _ _ _ h => h⟩, ⟨87, fun v _ => v = .int .u32 (q : Int), fun _ _ _ _ h => h⟩, ⟨88, fun v _ => v = .int .u32 (n : Int), fun _ _ _ _ h => h⟩, ⟨89, fun v _ => v = .int .u32 (kk : Int), fun _ _ _ _ h => h⟩, ⟨90, fun v _ => v = .bool false, fun _ _ _ _ h => h⟩, ⟨91, fun v _ => v = .bool false, fun _ _ _ _ h => h⟩, ⟨15, fun v _ => v = .bool false, fun _ _ _ _ h => h⟩] _ (by kernel_rfl) rfl (by kernel_rfl) (Below.drew (Below.refl _ _)) (fun _ _ _ h1 h2 => below_tr h1 h2) (fun QQ => ⟨?_, ?_, ?_, ?_, ?_, ?_, ?_, ?_, ?_, ?_, ?_, ?_, ?_, ?_, ?_, ?_, trivial⟩) (fun f wy hR hf => ?_)
              · intro A wx hR hout hdep K hK
                have h14 : A.tmps[14]?.getD undef = .pointer (some ⟨wr.heap.size, 0, none⟩) := hout 14 (by kernel_rfl)
                refine if_yes (by kernel_rfl) ?_
                simp [go_sem, h14, hd1, hd2, t1, t2, z1, z2, z2', z3]
                exact hK.out _ _ (Below.refl _ _) rfl
              · intro A wx hR hout hdep K hK
                have h77 : A.tmps[77]?.getD undef = .pointer (some ⟨wr.heap.size, 0, none⟩) := hdep 77 (by kernel_rfl)
                refine if_yes (by kernel_rfl) ?_
                have l0 := keep_cell hR l0
                have l1 := keep_cell hR l1
                simp [go_sem, h77, l0, l1, hd1, hd2, t1, t2, z1, z2, z2', z3]
                exact hK.out _ _ (Below.refl _ _) rfl
              · intro A wx hR hout hdep K hK
                have h1 : A.tmps[1]?.getD undef = .int .u32 (a : Int) := hout 1 (by kernel_rfl)
                refine if_yes (by kernel_rfl) ?_
                simp [go_sem, h1, hd1, hd2, t1, t2, z1, z2, z2', z3]
                exact hK.out _ _ (Below.refl _ _) rfl
              · intro A wx hR hout hdep K hK
                have h79 : A.tmps[79]?.getD undef = .int .u32 (a : Int) := hdep 79 (by kernel_rfl)
                refine if_yes (by kernel_rfl) ?_
                simp [go_sem, h79, hd1, hd2, t1, t2, z1, z2, z2', z3]
                exact hK.out _ _ (Below.refl _ _) rfl
              · intro A wx hR hout hdep K hK
                have h78 : A.tmps[78]?.getD undef = .int .u32 (p : Int) := hdep 78 (by kernel_rfl)
                have h80 : A.tmps[80]?.getD undef = .int .u32 (fp : Int) := hdep 80 (by kernel_rfl)
                refine if_yes (by kernel_rfl) ?_
                simp [go_sem, h78, h80, hd1, hd2, t1, t2, z1, z2, z2', z3]
                exact hK.out _ _ (Below.refl _ _) rfl
              · intro A wx hR hout hdep K hK
                have h81 : A.tmps[81]?.getD undef = .bool true := hdep 81 (by kernel_rfl)
                refine if_yes (by kernel_rfl) ?_
                simp [go_sem, h81, hd1, hd2, t1, t2, z1, z2, z2', z3]
                exact hK.out _ _ (Below.refl _ _) rfl
              · intro A wx hR hout hdep K hK
                have h14 : A.tmps[14]?.getD undef = .pointer (some ⟨wr.heap.size, 0, none⟩) := hout 14 (by kernel_rfl)
                have h82 : A.tmps[82]?.getD undef = .bool true := hdep 82 (by kernel_rfl)
                refine if_yes ((wanted_is (j := 5) (b := true) (by kernel_rfl) (by kernel_rfl) h82).trans rfl) ?_
                simp [go_sem, h14, hd1, hd2, t1, t2, z1, z2, z2', z3]
                exact hK.out _ _ (Below.refl _ _) rfl
              · intro A wx hR hout hdep K hK
                have h83 : A.tmps[83]?.getD undef = .pointer (some ⟨wr.heap.size, 0, none⟩) := hdep 83 (by kernel_rfl)
                have h82 : A.tmps[82]?.getD undef = .bool true := hdep 82 (by kernel_rfl)
                refine if_yes ((wanted_is (j := 5) (b := true) (by kernel_rfl) (by kernel_rfl) h82).trans rfl) ?_
                have l0 := keep_cell hR l0
                have l1 := keep_cell hR l1
                simp [go_sem, h83, l0, l1, hd1, hd2, t1, t2, z1, z2, z2', z3]
                exact hK.out _ _ (Below.refl _ _) rfl
              · intro A wx hR hout hdep K hK
                have h1 : A.tmps[1]?.getD undef = .int .u32 (a : Int) := hout 1 (by kernel_rfl)
                have h82 : A.tmps[82]?.getD undef = .bool true := hdep 82 (by kernel_rfl)
                refine if_yes ((wanted_is (j := 5) (b := true) (by kernel_rfl) (by kernel_rfl) h82).trans rfl) ?_
                simp [go_sem, h1, hd1, hd2, t1, t2, z1, z2, z2', z3]
                exact hK.out _ _ (Below.refl _ _) rfl
              · intro A wx hR hout hdep K hK
                have h85 : A.tmps[85]?.getD undef = .int .u32 (a : Int) := hdep 85 (by kernel_rfl)
                have h82 : A.tmps[82]?.getD undef = .bool true := hdep 82 (by kernel_rfl)
                refine if_yes ((wanted_is (j := 5) (b := true) (by kernel_rfl) (by kernel_rfl) h82).trans rfl) ?_
                simp [go_sem, h85, hd1, hd2, t1, t2, z1, z2, z2', z3]
                exact hK.out _ _ (Below.refl _ _) rfl
              · intro A wx hR hout hdep K hK
                have h84 : A.tmps[84]?.getD undef = .int .u32 (p : Int) := hdep 84 (by kernel_rfl)
                have h86 : A.tmps[86]?.getD undef = .int .u32 (fp : Int) := hdep 86 (by kernel_rfl)
                have h82 : A.tmps[82]?.getD undef = .bool true := hdep 82 (by kernel_rfl)
                refine if_yes ((wanted_is (j := 5) (b := true) (by kernel_rfl) (by kernel_rfl) h82).trans rfl) ?_
                simp [go_sem, h84, h86, hd1, hd2, t1, t2, z1, z2, z2', z3]
                exact hK.out _ _ (Below.refl _ _) rfl
              · intro A wx hR hout hdep K hK
                have h2 : A.tmps[2]?.getD undef = .int .u32 (n : Int) := hout 2 (by kernel_rfl)
                have h82 : A.tmps[82]?.getD undef = .bool true := hdep 82 (by kernel_rfl)
                refine if_yes ((wanted_is (j := 5) (b := true) (by kernel_rfl) (by kernel_rfl) h82).trans rfl) ?_
                simp [go_sem, h2, hd1, hd2, t1, t2, z1, z2, z2', z3]
                exact hK.out _ _ (Below.refl _ _) rfl
              · intro A wx hR hout hdep K hK
                have h88 : A.tmps[88]?.getD undef = .int .u32 (n : Int) := hdep 88 (by kernel_rfl)
                have h82 : A.tmps[82]?.getD undef = .bool true := hdep 82 (by kernel_rfl)
                refine if_yes ((wanted_is (j := 5) (b := true) (by kernel_rfl) (by kernel_rfl) h82).trans rfl) ?_
                simp [go_sem, h88, hd1, hd2, t1, t2, z1, z2, z2', z3]
                refine (K20.out wx).mono ?_
                rintro e wG ⟨rfl, rfl⟩
                exact hK.out _ _ (Below.refl _ _) rfl
              · intro A wx hR hout hdep K hK
                have h87 : A.tmps[87]?.getD undef = .int .u32 (q : Int) := hdep 87 (by kernel_rfl)
                have h89 : A.tmps[89]?.getD undef = .int .u32 (kk : Int) := hdep 89 (by kernel_rfl)
                have h82 : A.tmps[82]?.getD undef = .bool true := hdep 82 (by kernel_rfl)
                refine if_yes ((wanted_is (j := 5) (b := true) (by kernel_rfl) (by kernel_rfl) h82).trans rfl) ?_
                simp [go_sem, h87, h89, hd1, hd2, t1, t2, z1, z2, z2', z3]
                exact hK.out _ _ (Below.refl _ _) rfl
              · intro A wx hR hout hdep K hK
                have h82 : A.tmps[82]?.getD undef = .bool true := hdep 82 (by kernel_rfl)
                have h90 : A.tmps[90]?.getD undef = .bool false := hdep 90 (by kernel_rfl)
                refine if_yes (by kernel_rfl) ?_
                simp [go_sem, h82, h90, hd1, hd2, t1, t2, z1, z2, z2', z3]
                exact hK.out _ _ (Below.refl _ _) rfl
              · intro A wx hR hout hdep K hK
                have h91 : A.tmps[91]?.getD undef = .bool false := hdep 91 (by kernel_rfl)
                refine if_yes (by kernel_rfl) ?_
                simp [go_sem, h91, hd1, hd2, t1, t2, z1, z2, z2', z3]
                exact hK.out _ _ (Below.refl _ _) rfl
              simp only [putSl, Act.put, List.setIfInBounds_toArray, List.set_cons_zero, List.set_cons_succ]
              have hz : f 15 = .bool false := hf 15 (by kernel_rfl)
              rw [hz]
              have hbz := below_tr (below_tr hbr hb5) hR
              have l0 := keep_cell hR l0
              have l1 := keep_cell hR l1
              have d0 := keep_cell hR d0
              have d1 := keep_cell hR d1
              have d2 := keep_cell hR d2
              have d3 := keep_cell hR d3
              have g0 := keep_cell hR g0
              have g1 := keep_cell hR g1
              have g2 := keep_cell hR g2
              have g3 := keep_cell hR g3
              clear hf hz hR
              obtain ⟨W6, rfl⟩ : ∃ z, z = wy := ⟨_, rfl⟩
              go_wp2
              refine wp_region_slots (R := Ext) [⟨92, fun v _ => v = .int .i64 err1, fun _ _ _ _ h => h⟩, ⟨93, fun v _ => v = .bool false, fun _ _ _ _ h => h⟩, ⟨94, fun v _ => v = .bool false, fun _ _ _ _ h => h⟩, ⟨108, fun v _ => v = .bool false, fun _ _ _ _ h => h⟩, ⟨109, fun v _ => v = .bool false, fun _ _ _ _ h => h⟩, ⟨110, fun v _ => v = .int .i64 err2, fun _ _ _ _ h => h⟩, ⟨111, fun v _ => v = .bool false, fun _ _ _ _ h => h⟩, ⟨112, fun v _ => v = .bool false, fun _ _ _ _ h => h⟩, ⟨121, fun v _ => v = .bool false, fun _ _ _ _ h => h⟩, ⟨122, fun v _ => v = .bool false, fun _ _ _ _ h => h⟩] _ (by kernel_rfl) rfl (by kernel_rfl) (Below.drew (Below.refl _ _)) (fun _ _ _ h1 h2 => below_tr h1 h2) (fun QQ => ⟨?_, ?_, ?_, ?_, ?_, ?_, ?_, ?_, ?_, ?_, ?_, ?_, ?_, ?_, ?_, ?_, ?_, ?_, ?_, ?_, ?_, ?_, ?_, ?_, ?_, ?_, ?_, ?_, ?_, ?_, ?_, ?_, ?_, trivial⟩) (fun f wy hR hf => ?_)
              · intro A wx hR hout hdep K hK
                have h10 : A.tmps[10]?.getD undef = .int .i64 err1 := hout 10 (by kernel_rfl)
                refine if_yes (by kernel_rfl) ?_
                simp [go_sem, h10, hq1, hq2, hq1', hq2', hv]
                exact hK.out _ _ (Below.refl _ _) rfl
              · intro A wx hR hout hdep K hK
                have h92 : A.tmps[92]?.getD undef = .int .i64 err1 := hdep 92 (by kernel_rfl)
                refine if_yes (by kernel_rfl) ?_
                simp [go_sem, h92, hq1, hq2, hq1', hq2', hv]
                exact hK.out _ _ (Below.refl _ _) rfl
              · intro A wx hR hout hdep K hK
                have h93 : A.tmps[93]?.getD undef = .bool false := hdep 93 (by kernel_rfl)
                refine if_yes (by kernel_rfl) ?_
                simp [go_sem, h93, hq1, hq2, hq1', hq2', hv]
                exact hK.out _ _ (Below.refl _ _) rfl
              · intro A wx hR hout hdep K hK
                have h9 : A.tmps[9]?.getD undef = .pointer (some ⟨w3.heap.size, 0, none⟩) := hout 9 (by kernel_rfl)
                have h94 : A.tmps[94]?.getD undef = .bool false := hdep 94 (by kernel_rfl)
                refine if_not (by rw [wanted_is (j := 2) (b := true) (by kernel_rfl) (by kernel_rfl) h94]; decide) ?_
                exact hK.out _ _ (Below.refl _ _) trivial
              · intro A wx hR hout hdep K hK
                have h94 : A.tmps[94]?.getD undef = .bool false := hdep 94 (by kernel_rfl)
                refine if_not (by rw [wanted_is (j := 2) (b := true) (by kernel_rfl) (by kernel_rfl) h94]; decide) ?_
                exact hK.out _ _ (Below.refl _ _) trivial
              · intro A wx hR hout hdep K hK
                have h14 : A.tmps[14]?.getD undef = .pointer (some ⟨wr.heap.size, 0, none⟩) := hout 14 (by kernel_rfl)
                have h94 : A.tmps[94]?.getD undef = .bool false := hdep 94 (by kernel_rfl)
                refine if_not (by rw [wanted_is (j := 2) (b := true) (by kernel_rfl) (by kernel_rfl) h94]; decide) ?_
                exact hK.out _ _ (Below.refl _ _) trivial
              · intro A wx hR hout hdep K hK
                have h94 : A.tmps[94]?.getD undef = .bool false := hdep 94 (by kernel_rfl)
                refine if_not (by rw [wanted_is (j := 2) (b := true) (by kernel_rfl) (by kernel_rfl) h94]; decide) ?_
                exact hK.out _ _ (Below.refl _ _) trivial
              · intro A wx hR hout hdep K hK
                have h94 : A.tmps[94]?.getD undef = .bool false := hdep 94 (by kernel_rfl)
                refine if_not (by rw [wanted_is (j := 2) (b := true) (by kernel_rfl) (by kernel_rfl) h94]; decide) ?_
                exact hK.out _ _ (Below.refl _ _) trivial
              · intro A wx hR hout hdep K hK
                have h94 : A.tmps[94]?.getD undef = .bool false := hdep 94 (by kernel_rfl)
                refine if_not (by rw [wanted_is (j := 2) (b := true) (by kernel_rfl) (by kernel_rfl) h94]; decide) ?_
                exact hK.out _ _ (Below.refl _ _) trivial
              · intro A wx hR hout hdep K hK
                have h3 : A.tmps[3]?.getD undef = .int .i64 prot := hout 3 (by kernel_rfl)
                have h94 : A.tmps[94]?.getD undef = .bool false := hdep 94 (by kernel_rfl)
                refine if_not (by rw [wanted_is (j := 2) (b := true) (by kernel_rfl) (by kernel_rfl) h94]; decide) ?_
                exact hK.out _ _ (Below.refl _ _) trivial
              · intro A wx hR hout hdep K hK
                have h94 : A.tmps[94]?.getD undef = .bool false := hdep 94 (by kernel_rfl)
                refine if_not (by rw [wanted_is (j := 2) (b := true) (by kernel_rfl) (by kernel_rfl) h94]; decide) ?_
                exact hK.out _ _ (Below.refl _ _) trivial
              · intro A wx hR hout hdep K hK
                have h14 : A.tmps[14]?.getD undef = .pointer (some ⟨wr.heap.size, 0, none⟩) := hout 14 (by kernel_rfl)
                have h94 : A.tmps[94]?.getD undef = .bool false := hdep 94 (by kernel_rfl)
                refine if_not (by rw [wanted_is (j := 2) (b := true) (by kernel_rfl) (by kernel_rfl) h94]; decide) ?_
                exact hK.out _ _ (Below.refl _ _) trivial
              · intro A wx hR hout hdep K hK
                have h94 : A.tmps[94]?.getD undef = .bool false := hdep 94 (by kernel_rfl)
                refine if_not (by rw [wanted_is (j := 2) (b := true) (by kernel_rfl) (by kernel_rfl) h94]; decide) ?_
                exact hK.out _ _ (Below.refl _ _) trivial
              · intro A wx hR hout hdep K hK
                have h94 : A.tmps[94]?.getD undef = .bool false := hdep 94 (by kernel_rfl)
                refine if_not (by rw [wanted_is (j := 2) (b := true) (by kernel_rfl) (by kernel_rfl) h94]; decide) ?_
                exact hK.out _ _ (Below.refl _ _) trivial
              · intro A wx hR hout hdep K hK
                have h94 : A.tmps[94]?.getD undef = .bool false := hdep 94 (by kernel_rfl)
                refine if_not (by rw [wanted_is (j := 2) (b := true) (by kernel_rfl) (by kernel_rfl) h94]; decide) ?_
                exact hK.out _ _ (Below.refl _ _) trivial
              · intro A wx hR hout hdep K hK
                have h15 : A.tmps[15]?.getD undef = .bool false := hout 15 (by kernel_rfl)
                have h94 : A.tmps[94]?.getD undef = .bool false := hdep 94 (by kernel_rfl)
                refine if_not (by rw [wanted_is (j := 2) (b := true) (by kernel_rfl) (by kernel_rfl) h94]; decide) ?_
                exact hK.out _ _ (Below.refl _ _) trivial
              · intro A wx hR hout hdep K hK
                have h94 : A.tmps[94]?.getD undef = .bool false := hdep 94 (by kernel_rfl)
                refine if_not (by rw [wanted_is (j := 2) (b := true) (by kernel_rfl) (by kernel_rfl) h94]; decide) ?_
                exact hK.out _ _ (Below.refl _ _) trivial
              · intro A wx hR hout hdep K hK
                have h94 : A.tmps[94]?.getD undef = .bool false := hdep 94 (by kernel_rfl)
                refine if_not (by rw [wanted_is (j := 2) (b := true) (by kernel_rfl) (by kernel_rfl) h94]; decide) ?_
                exact hK.out _ _ (Below.refl _ _) trivial
              · intro A wx hR hout hdep K hK
                have h94 : A.tmps[94]?.getD undef = .bool false := hdep 94 (by kernel_rfl)
                refine if_yes (by kernel_rfl) ?_
                simp [go_sem, h94, hq1, hq2, hq1', hq2', hv]
                exact hK.out _ _ (Below.refl _ _) rfl
              · intro A wx hR hout hdep K hK
                have h108 : A.tmps[108]?.getD undef = .bool false := hdep 108 (by kernel_rfl)
                refine if_yes (by kernel_rfl) ?_
                simp [go_sem, h108, hq1, hq2, hq1', hq2', hv]
                exact hK.out _ _ (Below.refl _ _) rfl
              · intro A wx hR hout hdep K hK
                have h12 : A.tmps[12]?.getD undef = .int .i64 err2 := hout 12 (by kernel_rfl)
                have h109 : A.tmps[109]?.getD undef = .bool false := hdep 109 (by kernel_rfl)
                refine if_yes ((wanted_is (j := 19) (b := false) (by kernel_rfl) (by kernel_rfl) h109).trans rfl) ?_
                simp [go_sem, h12, hq1, hq2, hq1', hq2', hv]
                exact hK.out _ _ (Below.refl _ _) rfl
              · intro A wx hR hout hdep K hK
                have h110 : A.tmps[110]?.getD undef = .int .i64 err2 := hdep 110 (by kernel_rfl)
                have h109 : A.tmps[109]?.getD undef = .bool false := hdep 109 (by kernel_rfl)
                refine if_yes ((wanted_is (j := 19) (b := false) (by kernel_rfl) (by kernel_rfl) h109).trans rfl) ?_
                simp [go_sem, h110, hq1, hq2, hq1', hq2', hv]
                exact hK.out _ _ (Below.refl _ _) rfl
              · intro A wx hR hout hdep K hK
                have h111 : A.tmps[111]?.getD undef = .bool false := hdep 111 (by kernel_rfl)
                have h109 : A.tmps[109]?.getD undef = .bool false := hdep 109 (by kernel_rfl)
                refine if_yes ((wanted_is (j := 19) (b := false) (by kernel_rfl) (by kernel_rfl) h109).trans rfl) ?_
                simp [go_sem, h111, hq1, hq2, hq1', hq2', hv]
                exact hK.out _ _ (Below.refl _ _) rfl
              · intro A wx hR hout hdep K hK
                have h11 : A.tmps[11]?.getD undef = .pointer (some ⟨w4.heap.size, 0, none⟩) := hout 11 (by kernel_rfl)
                have h112 : A.tmps[112]?.getD undef = .bool false := hdep 112 (by kernel_rfl)
                refine if_not (by rw [wanted_is (j := 22) (b := true) (by kernel_rfl) (by kernel_rfl) h112]; decide) ?_
                exact hK.out _ _ (Below.refl _ _) trivial
              · intro A wx hR hout hdep K hK
                have h112 : A.tmps[112]?.getD undef = .bool false := hdep 112 (by kernel_rfl)
                refine if_not (by rw [wanted_is (j := 22) (b := true) (by kernel_rfl) (by kernel_rfl) h112]; decide) ?_
                exact hK.out _ _ (Below.refl _ _) trivial
              · intro A wx hR hout hdep K hK
                have h14 : A.tmps[14]?.getD undef = .pointer (some ⟨wr.heap.size, 0, none⟩) := hout 14 (by kernel_rfl)
                have h112 : A.tmps[112]?.getD undef = .bool false := hdep 112 (by kernel_rfl)
                refine if_not (by rw [wanted_is (j := 22) (b := true) (by kernel_rfl) (by kernel_rfl) h112]; decide) ?_
                exact hK.out _ _ (Below.refl _ _) trivial
              · intro A wx hR hout hdep K hK
                have h112 : A.tmps[112]?.getD undef = .bool false := hdep 112 (by kernel_rfl)
                refine if_not (by rw [wanted_is (j := 22) (b := true) (by kernel_rfl) (by kernel_rfl) h112]; decide) ?_
                exact hK.out _ _ (Below.refl _ _) trivial
              · intro A wx hR hout hdep K hK
                have h112 : A.tmps[112]?.getD undef = .bool false := hdep 112 (by kernel_rfl)
                refine if_not (by rw [wanted_is (j := 22) (b := true) (by kernel_rfl) (by kernel_rfl) h112]; decide) ?_
                exact hK.out _ _ (Below.refl _ _) trivial
              · intro A wx hR hout hdep K hK
                have h112 : A.tmps[112]?.getD undef = .bool false := hdep 112 (by kernel_rfl)
                refine if_not (by rw [wanted_is (j := 22) (b := true) (by kernel_rfl) (by kernel_rfl) h112]; decide) ?_
                exact hK.out _ _ (Below.refl _ _) trivial
              · intro A wx hR hout hdep K hK
                have h15 : A.tmps[15]?.getD undef = .bool false := hout 15 (by kernel_rfl)
                have h112 : A.tmps[112]?.getD undef = .bool false := hdep 112 (by kernel_rfl)
                refine if_not (by rw [wanted_is (j := 22) (b := true) (by kernel_rfl) (by kernel_rfl) h112]; decide) ?_
                exact hK.out _ _ (Below.refl _ _) trivial
              · intro A wx hR hout hdep K hK
                have h112 : A.tmps[112]?.getD undef = .bool false := hdep 112 (by kernel_rfl)
                refine if_not (by rw [wanted_is (j := 22) (b := true) (by kernel_rfl) (by kernel_rfl) h112]; decide) ?_
                exact hK.out _ _ (Below.refl _ _) trivial
              · intro A wx hR hout hdep K hK
                have h112 : A.tmps[112]?.getD undef = .bool false := hdep 112 (by kernel_rfl)
                have h109 : A.tmps[109]?.getD undef = .bool false := hdep 109 (by kernel_rfl)
                refine if_yes ((wanted_is (j := 19) (b := false) (by kernel_rfl) (by kernel_rfl) h109).trans rfl) ?_
                simp [go_sem, h112, hq1, hq2, hq1', hq2', hv]
                exact hK.out _ _ (Below.refl _ _) rfl
              · intro A wx hR hout hdep K hK
                have h109 : A.tmps[109]?.getD undef = .bool false := hdep 109 (by kernel_rfl)
                have h121 : A.tmps[121]?.getD undef = .bool false := hdep 121 (by kernel_rfl)
                refine if_yes (by kernel_rfl) ?_
                simp [go_sem, h109, h121, hq1, hq2, hq1', hq2', hv]
                exact hK.out _ _ (Below.refl _ _) rfl
              simp only [putSl, Act.put, List.setIfInBounds_toArray, List.set_cons_zero, List.set_cons_succ]
              have hz : f 122 = .bool false := hf 122 (by kernel_rfl)
              rw [hz]
              have hbz := below_tr hbz hR
              clear hf hz
              go_wp2
              go_roundw
              case rel => exact ⟨k + 1, by omega, by go_num, hbz⟩
              case measure => simp [intOf]; omega
        · obtain rfl : k = s8 := by omega
          have HB : Hid (Below w.heap.size w wr) := below_tr HB.out hbr
          clear hbr HX BSr BXr BYr
          go_wp2_with fail
          refine (awake10 wr).mono ?_
          rintro e wz ⟨rfl, hbz⟩
          have HBz : Hid (Below w.heap.size w wz) := below_tr HB.out hbz
          go_wp2
          go_ret
          exact ⟨rfl, HBz.out⟩
end Go.Proofs.YtkpmkgkfpikpfaaGreat
