/- What is proved here: the law GmapBack, walked. -/
import Derived.Test.YtkpmkgkfpikpfaaGreatStj
namespace Go.Proofs.YtkpmkgkfpikpfaaGreat
open Go.RowKit
set_option linter.unusedVariables false
set_option linter.unusedSimpArgs false
set_option maxRecDepth 100000
theorem box6S (w : World) (y0 y1 y2 y3 y4 y5 : Value) : ∃ X, w.alloc (.cells #[y0, y1, y2, y3, y4, y5] 32) = X ∧ B6 X w.heap.size 32 y0 y1 y2 y3 y4 y5 ∧ Below w.heap.size w X :=
  ⟨_, rfl, B6.new w 32 _ _ _ _ _ _, (Below.refl _ _).alloc (Nat.le_refl _) _⟩
def Up1 (ms cs ps : List (Nat × Int)) (bs st en a : Nat) (ms1 cs1 ps1 : List (Nat × Int)) (en1 : Nat) : Prop := (en1 = a ∨ (ms1 = ms ∧ cs1 = cs ∧ ps1 = ps ∧ en1 = en)) ∧ RFit (0, ms1, cs1, ps1) bs ∧ st ≤ en1 ∧ en1 < 4294967296 ∧ (en ≤ a → heapR ms1 cs1 ps1 bs st en1 en = (0, ms, cs, ps))
theorem brk_up (vm vc vp : Value) (bs st en a : Nat) (ms cs ps : List (Nat × Int)) (w : World) (hsl : SlG w vm vc vp ms cs ps) (hrc : ∀ y ∈ cs, y.1 < 18446744073709551616) (hw : Words cs) (hf : FitG ms cs ps bs) (ha : a < 4294967296) (hen : en < 4294967296) (hse : st ≤ en) :
    Calls Tryz.prog 17 #[.agg #[vm, vc, .int .u64 (bs : Int), vp, .int .u32 (st : Int), .int .u32 (en : Int)], .int .u32 (a : Int)] w fun e w' => ∃ ms1 cs1 ps1 en1, Up1 ms cs ps bs st en a ms1 cs1 ps1 en1 ∧ BTold ms1 cs1 ps1 bs st en1 w e w' := by
  refine (brk17 vm vc vp bs st en a ms cs ps w hsl hrc hw hf ha hen).mono ?_
  intro e w' h
  by_cases h0 : (heapR ms cs ps bs st en a).1 = 0
  · rw [if_pos h0] at h
    exact ⟨_, _, _, _, ⟨.inl rfl, heapR_fit st en a hf hw hrc, heapR_ge h0, ha, fun hae => heapR_back hf hse hae ha h0⟩, h⟩
  · rw [if_neg h0] at h
    exact ⟨_, _, _, _, ⟨.inr ⟨rfl, rfl, rfl, rfl⟩, rfit_same hf hw hrc, hse, hen, fun _ => heapR_same _ _ _ _ _ _ hse⟩, h⟩
theorem brk_dn (vm vc vp : Value) (bs st en a en1 : Nat) (ms cs ps ms1 cs1 ps1 : List (Nat × Int)) (w : World) (hsl : SlG w vm vc vp ms1 cs1 ps1) (h : Up1 ms cs ps bs st en a ms1 cs1 ps1 en1) (hen : en < 4294967296) :
    Calls Tryz.prog 17 #[.agg #[vm, vc, .int .u64 (bs : Int), vp, .int .u32 (st : Int), .int .u32 (en1 : Int)], .int .u32 (en : Int)] w fun e w' => ∃ en2, (en ≤ a → en2 = en) ∧ ∃ am nm pm ac nc pc ap np pp, e = .returned (.tuple #[.agg #[.slice am nm pm, .slice ac nc pc, .int .u64 (bs : Int), .slice ap np pp, .int .u32 (st : Int), .int .u32 (en2 : Int)], .int .u32 (en2 : Int)]) ∧ (en ≤ a → np = ps.length) ∧ Below w.heap.size w w' := by
  refine (brk17 vm vc vp bs st en1 en ms1 cs1 ps1 w hsl h.2.1.2.2 h.2.1.2.1 h.2.1.1 hen h.2.2.2.1).mono ?_
  intro e w' k
  by_cases hae : en ≤ a
  · rw [h.2.2.2.2 hae, if_pos rfl] at k
    obtain ⟨am, nm, pm, ac, nc, pc, ap, np, pp, rfl, hs, hb⟩ := k
    obtain ⟨_, _, e8, _⟩ := id hs.2.2
    exact ⟨_, fun _ => rfl, _, _, _, _, _, _, _, _, _, rfl, fun _ => by cases e8; rfl, hb⟩
  · split at k
    · obtain ⟨am, nm, pm, ac, nc, pc, ap, np, pp, rfl, hs, hb⟩ := k
      exact ⟨_, fun h => absurd h hae, _, _, _, _, _, _, _, _, _, rfl, fun h => absurd h hae, hb⟩
    · obtain ⟨am, nm, pm, ac, nc, pc, ap, np, pp, rfl, hs, hb⟩ := k
      exact ⟨_, fun h => absurd h hae, _, _, _, _, _, _, _, _, _, rfl, fun h => absurd h hae, hb⟩
set_option maxHeartbeats 8000000 in
theorem back_walk (vm vc vp : Value) (ms cs ps : List (Nat × Int)) (bs st en : Nat) (w : World) (hsl : SlG w vm vc vp ms cs ps) (hrc : ∀ y ∈ cs, y.1 < 18446744073709551616) (hw : Words cs) (hbs : bs < 18446744073709551616) (hst : st < 4294967296) (hen : en < 4294967296) (a n : Nat) (prot : Int) (ha : a < 4294967296) (hn : n < 4294967296) :
    Calls Tryz.prog 5 #[.agg #[vm, vc, .int .u64 (bs : Int), vp, .int .u32 (st : Int), .int .u32 (en : Int)], .int .u32 (a : Int), .int .u32 (n : Int), .int .i64 prot] w fun e w' => e = .returned (.bool true) ∧ Below w.heap.size w w' := by
  obtain ⟨s1, s3, rfl, l0a, l0b⟩ : ∃ x p, vm = .slice x ms.length p ∧ ms.length ≤ p ∧ p ≤ 9223372036854775807 := by obtain ⟨x, p, h, h1, h2, _⟩ := id hsl.1; exact ⟨_, _, h, h1, h2⟩
  obtain ⟨s4, s6, rfl, l1a, l1b⟩ : ∃ x p, vc = .slice x cs.length p ∧ cs.length ≤ p ∧ p ≤ 9223372036854775807 := by obtain ⟨x, p, h, h1, h2, _⟩ := id hsl.2.1; exact ⟨_, _, h, h1, h2⟩
  obtain ⟨s7, s9, rfl, l2a, l2b⟩ : ∃ x p, vp = .slice x ps.length p ∧ ps.length ≤ p ∧ p ≤ 9223372036854775807 := by obtain ⟨x, p, h, h1, h2, _⟩ := id hsl.2.2; exact ⟨_, _, h, h1, h2⟩
  obtain ⟨s2, hs2⟩ : ∃ z, z = ms.length := ⟨_, rfl⟩
  obtain ⟨s5, hs5⟩ : ∃ z, z = cs.length := ⟨_, rfl⟩
  obtain ⟨s8, hs8⟩ : ∃ z, z = ps.length := ⟨_, rfl⟩
  have l8 : s8 < 9223372036854775808 := by omega
  rw [← hs2, ← hs5, ← hs8] at hsl ⊢
  clear l0a l0b l1a l1b l2a l2b hs2 hs5
  have HS8 : Hid (s8 = ps.length) := hs8
  clear hs8
  obtain ⟨X, hX, BS, hb⟩ := box6S w (.slice s1 s2 s3) (.slice s4 s5 s6) (.int .u64 (bs : Int)) (.slice s7 s8 s9) (.int .u32 (st : Int)) (.int .u32 (en : Int))
  obtain ⟨c0, c1, c2, c3, c4, c5⟩ := BS.cells
  have K7 := few7 (.slice s1 s2 s3) (.slice s4 s5 s6) (.slice s7 s8 s9) bs st en ms cs ps X (hsl.keep hb)
  have K9 : Hid (∀ w', Below X.heap.size X w' → Calls Tryz.prog 9 #[.agg #[.slice s1 s2 s3, .slice s4 s5 s6, .int .u64 (bs : Int), .slice s7 s8 s9, .int .u32 (st : Int), .int .u32 (en : Int)]] w' fun e w'' => e = .returned (.bool (spFit ms cs ps bs st en)) ∧ Below w'.heap.size w' w'') := fun w' hb' =>
    rspFit9 (.slice s1 s2 s3) (.slice s4 s5 s6) (.slice s7 s8 s9) bs st en ms cs ps w' (hsl.keep (below_tr hb hb')) hrc hbs
  have HSL : Hid (SlG X (.slice s1 s2 s3) (.slice s4 s5 s6) (.slice s7 s8 s9) ms cs ps) := hsl.keep hb
  have HRC : Hid (∀ y ∈ cs, y.1 < 18446744073709551616) := hrc
  have HWO : Hid (Words cs) := hw
  have HR : Hid (st < 4294967296 ∧ en < 4294967296 ∧ a < 4294967296 ∧ n < 4294967296 ∧ bs < 18446744073709551616) := ⟨hst, hen, ha, hn, hbs⟩
  have HB : Hid (Below w.heap.size w X) := hb
  clear hsl hrc hw hb hst hen ha hn hbs
  by_cases hfew : ms.length ≤ 70 ∧ cs.length ≤ 100 ∧ ps.length ≤ 80
  case neg =>
    rw [decide_eq_false hfew] at K7
    clear hfew
    go_enter Tryz.func5, Tryz.ntmps5
    go_wp2_with fail
    refine K7.mono ?_
    rintro e w1 ⟨rfl, hb1⟩
    have HB1 : Hid (Below w.heap.size w w1) := below_tr HB.out hb1
    clear hb1
    go_wp2_with fail
    refine (awake10 w1).mono ?_
    rintro e wz ⟨rfl, hbz⟩
    have HBz : Hid (Below w.heap.size w wz) := below_tr HB1.out hbz
    go_wp2
    go_ret
    exact ⟨rfl, HBz.out⟩
  rw [decide_eq_true hfew] at K7
  clear hfew
  cases hfit : spFit ms cs ps bs st en with
  | false =>
    rw [hfit] at K9
    clear hfit
    go_enter Tryz.func5, Tryz.ntmps5
    go_wp2_with fail
    refine K7.mono ?_
    rintro e w1 ⟨rfl, hb1⟩
    have K9 := K9.out w1 hb1
    obtain ⟨c0, c1, c2, c3, c4, c5⟩ := (BS.keep hb1).cells
    have HB1 : Hid (Below w.heap.size w w1) := below_tr HB.out hb1
    clear hb1 BS
    go_wp2_with fail
    refine K9.mono ?_
    rintro e w2 ⟨rfl, hb2⟩
    have HB2 : Hid (Below w.heap.size w w2) := below_tr HB1.out hb2
    clear hb2 K9
    go_wp2_with fail
    refine (awake10 w2).mono ?_
    rintro e wz ⟨rfl, hbz⟩
    have HBz : Hid (Below w.heap.size w wz) := below_tr HB2.out hbz
    go_wp2
    go_ret
    exact ⟨rfl, HBz.out⟩
  | true =>
  rw [hfit] at K9
  have HQ : Hid (FitG ms cs ps bs ∧ st % 4096 = 0 ∧ st ≤ en) := of_spFit hfit
  clear hfit
  go_enter Tryz.func5, Tryz.ntmps5
  go_wp2_with fail
  refine K7.mono ?_
  rintro e w1 ⟨rfl, hb1⟩
  have K9 := K9.out w1 hb1
  have BS := BS.keep hb1
  obtain ⟨c0, c1, c2, c3, c4, c5⟩ := BS.cells
  have HB : Hid (Below w.heap.size w w1) := below_tr HB.out hb1
  have HSL : Hid (SlG w1 (.slice s1 s2 s3) (.slice s4 s5 s6) (.slice s7 s8 s9) ms cs ps) := HSL.out.keep hb1
  clear hb1 K7 hX
  go_wp2_with fail
  refine K9.mono ?_
  rintro e w2 ⟨rfl, hb2⟩
  have BS := BS.keep hb2
  obtain ⟨c0, c1, c2, c3, c4, c5⟩ := BS.cells
  have HB : Hid (Below w.heap.size w w2) := below_tr HB.out hb2
  have HSL : Hid (SlG w2 (.slice s1 s2 s3) (.slice s4 s5 s6) (.slice s7 s8 s9) ms cs ps) := HSL.out.keep hb2
  clear hb2 K9
  have K17 := brk_up (.slice s1 s2 s3) (.slice s4 s5 s6) (.slice s7 s8 s9) bs st en a ms cs ps w2 HSL.out HRC.out HWO.out HQ.out.1 HR.out.2.2.1 HR.out.2.1 HQ.out.2.2
  go_wp2_with fail
  refine K17.mono ?_
  rintro e w3 ⟨ms1, cs1, ps1, en1, hup, x1, x2, x3, x4, x5, x6, x7, x8, x9, rfl, hs3, hb3⟩
  clear K17
  have HUP : Hid (Up1 ms cs ps bs st en a ms1 cs1 ps1 en1) := hup
  obtain ⟨Xa, X3, hXa, hX3, ⟨i0, i1, i2, i3, i4, i5⟩, ⟨j0, j1, j2, j3, j4, j5⟩, BX, bb3⟩ := new6 w3 (.slice x1 x2 x3) (.slice x4 x5 x6) (.int .u64 (bs : Int)) (.slice x7 x8 x9) (.int .u32 (st : Int)) (.int .u32 (en1 : Int))
  have BS := (BS.keep hb3).keep bb3
  have HB : Hid (Below w.heap.size w X3) := below_tr HB.out (below_tr hb3 bb3)
  have HSL : Hid (SlG X3 (.slice s1 s2 s3) (.slice s4 s5 s6) (.slice s7 s8 s9) ms cs ps) := (HSL.out.keep hb3).keep bb3
  have HSX : Hid (SlG X3 (.slice x1 x2 x3) (.slice x4 x5 x6) (.slice x7 x8 x9) ms1 cs1 ps1) := hs3.keep bb3
  obtain ⟨c0, c1, c2, c3, c4, c5⟩ := BS.cells
  obtain ⟨d0, d1, d2, d3, d4, d5⟩ := BX.cells
  have hen1 : en1 = a ∨ (ms1 = ms ∧ cs1 = cs ∧ ps1 = ps ∧ en1 = en) := hup.1
  clear hs3 hb3 bb3 hup
  have K9b : Hid (∀ w', Below X3.heap.size X3 w' → Calls Tryz.prog 9 #[.agg #[.slice x1 x2 x3, .slice x4 x5 x6, .int .u64 (bs : Int), .slice x7 x8 x9, .int .u32 (st : Int), .int .u32 (en1 : Int)]] w' fun e w'' => e = .returned (.bool true) ∧ Below w'.heap.size w' w'') := fun w' hb' => by
    have h := rspFit9 (.slice x1 x2 x3) (.slice x4 x5 x6) (.slice x7 x8 x9) bs st en1 ms1 cs1 ps1 w' (HSX.out.keep hb') HUP.out.2.1.2.2 HR.out.2.2.2.2
    rw [spFit_of HUP.out.2.1.1 HQ.out.2.1 HUP.out.2.2.1] at h
    exact h
  by_cases hea : en1 = a
  · obtain rfl : a = en1 := hea.symm
    clear hen1
    have K9b := K9b.out X3 (Below.refl _ _)
    go_wp2_with fail
    refine K9b.mono ?_
    rintro e w5 ⟨rfl, hb5⟩
    have BS := BS.keep hb5
    have BX := BX.keep hb5
    have HB : Hid (Below w.heap.size w w5) := below_tr HB.out hb5
    have HSL : Hid (SlG w5 (.slice s1 s2 s3) (.slice s4 s5 s6) (.slice s7 s8 s9) ms cs ps) := HSL.out.keep hb5
    have HSX : Hid (SlG w5 (.slice x1 x2 x3) (.slice x4 x5 x6) (.slice x7 x8 x9) ms1 cs1 ps1) := HSX.out.keep hb5
    obtain ⟨c0, c1, c2, c3, c4, c5⟩ := BS.cells
    obtain ⟨d0, d1, d2, d3, d4, d5⟩ := BX.cells
    clear hb5 K9b hXa hX3 i0 i1 i2 i3 i4 i5 j0 j1 j2 j3 j4 j5
    have K17 := brk_dn (.slice x1 x2 x3) (.slice x4 x5 x6) (.slice x7 x8 x9) bs st en a a ms cs ps ms1 cs1 ps1 w5 HSX.out HUP.out HR.out.2.1
    go_wp2_with fail
    refine K17.mono ?_
    rintro e w6 ⟨en2, hen2, y1, y2, y3, y4, y5, y6, y7, y8, y9, rfl, hnp, hb6⟩
    clear K17
    obtain ⟨Xc, X6, hXc, hX6, ⟨i0, i1, i2, i3, i4, i5⟩, ⟨j0, j1, j2, j3, j4, j5⟩, BY, bb6⟩ := new6 w6 (.slice y1 y2 y3) (.slice y4 y5 y6) (.int .u64 (bs : Int)) (.slice y7 y8 y9) (.int .u32 (st : Int)) (.int .u32 (en2 : Int))
    have BS := (BS.keep hb6).keep bb6
    have HB : Hid (Below w.heap.size w X6) := below_tr HB.out (below_tr hb6 bb6)
    have HSL : Hid (SlG X6 (.slice s1 s2 s3) (.slice s4 s5 s6) (.slice s7 s8 s9) ms cs ps) := (HSL.out.keep hb6).keep bb6
    obtain ⟨c0, c1, c2, c3, c4, c5⟩ := BS.cells
    obtain ⟨g0, g1, g2, g3, g4, g5⟩ := BY.cells
    clear hb6 bb6 d0 d1 d2 d3 d4 d5 BX HSX
    have K11 := mmap11 (.slice s1 s2 s3) (.slice s4 s5 s6) (.slice s7 s8 s9) bs st en 0 n prot false ms cs ps X6 HSL.out HRC.out HWO.out HQ.out.1 HR.out.1 HR.out.2.1 (by omega) HR.out.2.2.2.1
    by_cases hae : en ≤ a
    · obtain rfl : en2 = en := hen2 hae
      obtain rfl : y8 = s8 := (hnp hae).trans HS8.out.symm
      have hae' : ((en2 : Int) ≤ (a : Int)) = True := by simp; omega
      clear hen2 hnp
      go_wp2_with fail
      refine K11.mono ?_
      rintro e w7 ⟨R, at_, hmm, z1, z2, z3, z4, z5, z6, z7, z8, z9, rfl, hs7, hb7⟩
      clear K11
      have HMM : Hid (MmIs ms cs ps bs st en2 0 n prot false R at_) := hmm
      obtain ⟨err, herr⟩ : ∃ z, R.1 = z := ⟨_, rfl⟩
      rw [herr]
      obtain ⟨Xd, X7, hXd, hX7, ⟨i0, i1, i2, i3, i4, i5⟩, ⟨j0, j1, j2, j3, j4, j5⟩, BZ, bb7⟩ := new6 w7 (.slice z1 z2 z3) (.slice z4 z5 z6) (.int .u64 (bs : Int)) (.slice z7 z8 z9) (.int .u32 (st : Int)) (.int .u32 (en2 : Int))
      have BS := (BS.keep hb7).keep bb7
      have HB : Hid (Below w.heap.size w X7) := below_tr HB.out (below_tr hb7 bb7)
      have HSL : Hid (SlG X7 (.slice s1 s2 s3) (.slice s4 s5 s6) (.slice s7 y8 s9) ms cs ps) := (HSL.out.keep hb7).keep bb7
      have HSZ : Hid (SlG X7 (.slice z1 z2 z3) (.slice z4 z5 z6) (.slice z7 z8 z9) R.2.1 R.2.2.1 R.2.2.2) := hs7.keep bb7
      obtain ⟨c0, c1, c2, c3, c4, c5⟩ := BS.cells
      obtain ⟨d0, d1, d2, d3, d4, d5⟩ := BZ.cells
      clear hs7 hb7 bb7 hmm hXc hX6 g0 g1 g2 g3 g4 g5
      by_cases h0 : err = 0
      case neg =>
        have h0' : (err != 0) = true := by simp [h0]
        go_wp2_with fail
        refine (awake10 X7).mono ?_
        rintro e wz ⟨rfl, hbz⟩
        have HBz : Hid (Below w.heap.size w wz) := below_tr HB.out hbz
        go_wp2
        go_ret
        exact ⟨rfl, HBz.out⟩
      obtain ⟨m1, m2, m3⟩ := mm_back HQ.out.1 HWO.out HRC.out HMM.out (herr.trans h0)
      have K13 := munmap13 (.slice z1 z2 z3) (.slice z4 z5 z6) (.slice z7 z8 z9) bs st en2 at_ n R.2.1 R.2.2.1 R.2.2.2 X7 HSZ.out m3.2.2 m3.2.1 m3.1 m2 HR.out.2.2.2.1
      rw [m1] at K13
      subst h0
      clear m1 m2 m3 herr
      go_wp2_with fail
      refine K13.mono ?_
      rintro e w8 ⟨u1, u2, u3, u4, u5, u6, u7, u8, u9, rfl, hs8', hb8⟩
      clear K13
      obtain ⟨Xe, X8, hXe, hX8, ⟨i0, i1, i2, i3, i4, i5⟩, ⟨j0, j1, j2, j3, j4, j5⟩, BU, bb8⟩ := new6 w8 (.slice u1 u2 u3) (.slice u4 u5 u6) (.int .u64 (bs : Int)) (.slice u7 u8 u9) (.int .u32 (st : Int)) (.int .u32 (en2 : Int))
      have BS := (BS.keep hb8).keep bb8
      have HB : Hid (Below w.heap.size w X8) := below_tr HB.out (below_tr hb8 bb8)
      have hsl8 := (HSL.out.keep hb8).keep bb8
      have hsu8 := hs8'.keep bb8
      obtain ⟨c0, c1, c2, c3, c4, c5⟩ := BS.cells
      obtain ⟨g0, g1, g2, g3, g4, g5⟩ := BU.cells
      have K19 := rspSame19 (.slice u1 u2 u3) (.slice u4 u5 u6) (.slice u7 u8 u9) (.slice s1 s2 s3) (.slice s4 s5 s6) (.slice s7 y8 s9) bs st en2 bs st en2 ms cs ps ms cs ps X8 hsu8 hsl8
      have es : (sameG ms cs ps bs ms cs ps bs && decide (st = st) && decide (en2 = en2)) = true := by unfold sameG; simp
      rw [es] at K19
      clear hs8' hb8 bb8 hsl8 hsu8 hXd hX7 d0 d1 d2 d3 d4 d5 es
      go_wp2_with fail
      refine K19.mono ?_
      rintro e w9 ⟨rfl, hb9⟩
      have HB : Hid (Below w.heap.size w w9) := below_tr HB.out hb9
      clear hb9 K19
      go_wp2_with fail
      refine (awake10 w9).mono ?_
      rintro e wz ⟨rfl, hbz⟩
      have HBz : Hid (Below w.heap.size w wz) := below_tr HB.out hbz
      go_wp2
      go_ret
      exact ⟨rfl, HBz.out⟩
    · have hae' : ((en : Int) ≤ (a : Int)) = False := by simp; omega
      clear hen2 hnp
      go_wp2_with fail
      refine K11.mono ?_
      rintro e w7 ⟨R, at_, hmm, z1, z2, z3, z4, z5, z6, z7, z8, z9, rfl, hs7, hb7⟩
      clear K11
      have HMM : Hid (MmIs ms cs ps bs st en 0 n prot false R at_) := hmm
      obtain ⟨err, herr⟩ : ∃ z, R.1 = z := ⟨_, rfl⟩
      rw [herr]
      obtain ⟨Xd, X7, hXd, hX7, ⟨i0, i1, i2, i3, i4, i5⟩, ⟨j0, j1, j2, j3, j4, j5⟩, BZ, bb7⟩ := new6 w7 (.slice z1 z2 z3) (.slice z4 z5 z6) (.int .u64 (bs : Int)) (.slice z7 z8 z9) (.int .u32 (st : Int)) (.int .u32 (en : Int))
      have BS := (BS.keep hb7).keep bb7
      have HB : Hid (Below w.heap.size w X7) := below_tr HB.out (below_tr hb7 bb7)
      have HSL : Hid (SlG X7 (.slice s1 s2 s3) (.slice s4 s5 s6) (.slice s7 s8 s9) ms cs ps) := (HSL.out.keep hb7).keep bb7
      have HSZ : Hid (SlG X7 (.slice z1 z2 z3) (.slice z4 z5 z6) (.slice z7 z8 z9) R.2.1 R.2.2.1 R.2.2.2) := hs7.keep bb7
      obtain ⟨c0, c1, c2, c3, c4, c5⟩ := BS.cells
      obtain ⟨d0, d1, d2, d3, d4, d5⟩ := BZ.cells
      clear hs7 hb7 bb7 hmm hXc hX6 g0 g1 g2 g3 g4 g5
      by_cases h0 : err = 0
      case neg =>
        have h0' : (err != 0) = true := by simp [h0]
        go_wp2_with fail
        refine (awake10 X7).mono ?_
        rintro e wz ⟨rfl, hbz⟩
        have HBz : Hid (Below w.heap.size w wz) := below_tr HB.out hbz
        go_wp2
        go_ret
        exact ⟨rfl, HBz.out⟩
      obtain ⟨m1, m2, m3⟩ := mm_back HQ.out.1 HWO.out HRC.out HMM.out (herr.trans h0)
      have K13 := munmap13 (.slice z1 z2 z3) (.slice z4 z5 z6) (.slice z7 z8 z9) bs st en at_ n R.2.1 R.2.2.1 R.2.2.2 X7 HSZ.out m3.2.2 m3.2.1 m3.1 m2 HR.out.2.2.2.1
      rw [m1] at K13
      subst h0
      clear m1 m2 m3 herr
      go_wp2_with fail
      refine K13.mono ?_
      rintro e w8 ⟨u1, u2, u3, u4, u5, u6, u7, u8, u9, rfl, hs8', hb8⟩
      clear K13
      obtain ⟨Xe, X8, hXe, hX8, ⟨i0, i1, i2, i3, i4, i5⟩, ⟨j0, j1, j2, j3, j4, j5⟩, BU, bb8⟩ := new6 w8 (.slice u1 u2 u3) (.slice u4 u5 u6) (.int .u64 (bs : Int)) (.slice u7 u8 u9) (.int .u32 (st : Int)) (.int .u32 (en : Int))
      have BS := (BS.keep hb8).keep bb8
      have HB : Hid (Below w.heap.size w X8) := below_tr HB.out (below_tr hb8 bb8)
      have hsl8 := (HSL.out.keep hb8).keep bb8
      have hsu8 := hs8'.keep bb8
      obtain ⟨c0, c1, c2, c3, c4, c5⟩ := BS.cells
      obtain ⟨g0, g1, g2, g3, g4, g5⟩ := BU.cells
      have K19 := rspSame19 (.slice u1 u2 u3) (.slice u4 u5 u6) (.slice u7 u8 u9) (.slice s1 s2 s3) (.slice s4 s5 s6) (.slice s7 s8 s9) bs st en bs st en ms cs ps ms cs ps X8 hsu8 hsl8
      have es : (sameG ms cs ps bs ms cs ps bs && decide (st = st) && decide (en = en)) = true := by unfold sameG; simp
      rw [es] at K19
      clear hs8' hb8 bb8 hsl8 hsu8 hXd hX7 d0 d1 d2 d3 d4 d5 es
      go_wp2_with fail
      refine K19.mono ?_
      rintro e w9 ⟨rfl, hb9⟩
      have HB : Hid (Below w.heap.size w w9) := below_tr HB.out hb9
      clear hb9 K19
      go_wp2_with fail
      refine (awake10 w9).mono ?_
      rintro e wz ⟨rfl, hbz⟩
      have HBz : Hid (Below w.heap.size w wz) := below_tr HB.out hbz
      go_wp2
      go_ret
      exact ⟨rfl, HBz.out⟩
  · have hea' : ((en1 : Int) = (a : Int)) = False := by simp; omega
    obtain ⟨e1, e2, e3, e4⟩ := hen1.resolve_left hea
    have K19 := rspSame19 (.slice x1 x2 x3) (.slice x4 x5 x6) (.slice x7 x8 x9) (.slice s1 s2 s3) (.slice s4 s5 s6) (.slice s7 s8 s9) bs st en1 bs st en ms1 cs1 ps1 ms cs ps X3 HSX.out HSL.out
    have es : (sameG ms1 cs1 ps1 bs ms cs ps bs && decide (st = st) && decide (en1 = en)) = true := by
      rw [e1, e2, e3, e4]
      unfold sameG
      simp
    rw [es] at K19
    clear hen1 es e1 e2 e3 e4
    go_wp2_with fail
    refine K19.mono ?_
    rintro e w4 ⟨rfl, hb4⟩
    have BS := BS.keep hb4
    have BX := BX.keep hb4
    have HB : Hid (Below w.heap.size w w4) := below_tr HB.out hb4
    have HSL : Hid (SlG w4 (.slice s1 s2 s3) (.slice s4 s5 s6) (.slice s7 s8 s9) ms cs ps) := HSL.out.keep hb4
    have HSX : Hid (SlG w4 (.slice x1 x2 x3) (.slice x4 x5 x6) (.slice x7 x8 x9) ms1 cs1 ps1) := HSX.out.keep hb4
    obtain ⟨c0, c1, c2, c3, c4, c5⟩ := BS.cells
    obtain ⟨d0, d1, d2, d3, d4, d5⟩ := BX.cells
    have K9b := K9b.out w4 hb4
    clear hb4 K19
    go_wp2_with fail
    refine K9b.mono ?_
    rintro e w5 ⟨rfl, hb5⟩
    have BS := BS.keep hb5
    have BX := BX.keep hb5
    have HB : Hid (Below w.heap.size w w5) := below_tr HB.out hb5
    have HSL : Hid (SlG w5 (.slice s1 s2 s3) (.slice s4 s5 s6) (.slice s7 s8 s9) ms cs ps) := HSL.out.keep hb5
    have HSX : Hid (SlG w5 (.slice x1 x2 x3) (.slice x4 x5 x6) (.slice x7 x8 x9) ms1 cs1 ps1) := HSX.out.keep hb5
    obtain ⟨c0, c1, c2, c3, c4, c5⟩ := BS.cells
    obtain ⟨d0, d1, d2, d3, d4, d5⟩ := BX.cells
    clear hb5 K9b hXa hX3 i0 i1 i2 i3 i4 i5 j0 j1 j2 j3 j4 j5
    have K17 := brk_dn (.slice x1 x2 x3) (.slice x4 x5 x6) (.slice x7 x8 x9) bs st en a en1 ms cs ps ms1 cs1 ps1 w5 HSX.out HUP.out HR.out.2.1
    go_wp2_with fail
    refine K17.mono ?_
    rintro e w6 ⟨en2, hen2, y1, y2, y3, y4, y5, y6, y7, y8, y9, rfl, hnp, hb6⟩
    clear K17
    obtain ⟨Xc, X6, hXc, hX6, ⟨i0, i1, i2, i3, i4, i5⟩, ⟨j0, j1, j2, j3, j4, j5⟩, BY, bb6⟩ := new6 w6 (.slice y1 y2 y3) (.slice y4 y5 y6) (.int .u64 (bs : Int)) (.slice y7 y8 y9) (.int .u32 (st : Int)) (.int .u32 (en2 : Int))
    have BS := (BS.keep hb6).keep bb6
    have HB : Hid (Below w.heap.size w X6) := below_tr HB.out (below_tr hb6 bb6)
    have HSL : Hid (SlG X6 (.slice s1 s2 s3) (.slice s4 s5 s6) (.slice s7 s8 s9) ms cs ps) := (HSL.out.keep hb6).keep bb6
    obtain ⟨c0, c1, c2, c3, c4, c5⟩ := BS.cells
    obtain ⟨g0, g1, g2, g3, g4, g5⟩ := BY.cells
    clear hb6 bb6 d0 d1 d2 d3 d4 d5 BX HSX
    have K11 := mmap11 (.slice s1 s2 s3) (.slice s4 s5 s6) (.slice s7 s8 s9) bs st en 0 n prot false ms cs ps X6 HSL.out HRC.out HWO.out HQ.out.1 HR.out.1 HR.out.2.1 (by omega) HR.out.2.2.2.1
    by_cases hae : en ≤ a
    · obtain rfl : en2 = en := hen2 hae
      obtain rfl : y8 = s8 := (hnp hae).trans HS8.out.symm
      have hae' : ((en2 : Int) ≤ (a : Int)) = True := by simp; omega
      clear hen2 hnp
      go_wp2_with fail
      refine K11.mono ?_
      rintro e w7 ⟨R, at_, hmm, z1, z2, z3, z4, z5, z6, z7, z8, z9, rfl, hs7, hb7⟩
      clear K11
      have HMM : Hid (MmIs ms cs ps bs st en2 0 n prot false R at_) := hmm
      obtain ⟨err, herr⟩ : ∃ z, R.1 = z := ⟨_, rfl⟩
      rw [herr]
      obtain ⟨Xd, X7, hXd, hX7, ⟨i0, i1, i2, i3, i4, i5⟩, ⟨j0, j1, j2, j3, j4, j5⟩, BZ, bb7⟩ := new6 w7 (.slice z1 z2 z3) (.slice z4 z5 z6) (.int .u64 (bs : Int)) (.slice z7 z8 z9) (.int .u32 (st : Int)) (.int .u32 (en2 : Int))
      have BS := (BS.keep hb7).keep bb7
      have HB : Hid (Below w.heap.size w X7) := below_tr HB.out (below_tr hb7 bb7)
      have HSL : Hid (SlG X7 (.slice s1 s2 s3) (.slice s4 s5 s6) (.slice s7 y8 s9) ms cs ps) := (HSL.out.keep hb7).keep bb7
      have HSZ : Hid (SlG X7 (.slice z1 z2 z3) (.slice z4 z5 z6) (.slice z7 z8 z9) R.2.1 R.2.2.1 R.2.2.2) := hs7.keep bb7
      obtain ⟨c0, c1, c2, c3, c4, c5⟩ := BS.cells
      obtain ⟨d0, d1, d2, d3, d4, d5⟩ := BZ.cells
      clear hs7 hb7 bb7 hmm hXc hX6 g0 g1 g2 g3 g4 g5
      by_cases h0 : err = 0
      case neg =>
        have h0' : (err != 0) = true := by simp [h0]
        go_wp2_with fail
        refine (awake10 X7).mono ?_
        rintro e wz ⟨rfl, hbz⟩
        have HBz : Hid (Below w.heap.size w wz) := below_tr HB.out hbz
        go_wp2
        go_ret
        exact ⟨rfl, HBz.out⟩
      obtain ⟨m1, m2, m3⟩ := mm_back HQ.out.1 HWO.out HRC.out HMM.out (herr.trans h0)
      have K13 := munmap13 (.slice z1 z2 z3) (.slice z4 z5 z6) (.slice z7 z8 z9) bs st en2 at_ n R.2.1 R.2.2.1 R.2.2.2 X7 HSZ.out m3.2.2 m3.2.1 m3.1 m2 HR.out.2.2.2.1
      rw [m1] at K13
      subst h0
      clear m1 m2 m3 herr
      go_wp2_with fail
      refine K13.mono ?_
      rintro e w8 ⟨u1, u2, u3, u4, u5, u6, u7, u8, u9, rfl, hs8', hb8⟩
      clear K13
      obtain ⟨Xe, X8, hXe, hX8, ⟨i0, i1, i2, i3, i4, i5⟩, ⟨j0, j1, j2, j3, j4, j5⟩, BU, bb8⟩ := new6 w8 (.slice u1 u2 u3) (.slice u4 u5 u6) (.int .u64 (bs : Int)) (.slice u7 u8 u9) (.int .u32 (st : Int)) (.int .u32 (en2 : Int))
      have BS := (BS.keep hb8).keep bb8
      have HB : Hid (Below w.heap.size w X8) := below_tr HB.out (below_tr hb8 bb8)
      have hsl8 := (HSL.out.keep hb8).keep bb8
      have hsu8 := hs8'.keep bb8
      obtain ⟨c0, c1, c2, c3, c4, c5⟩ := BS.cells
      obtain ⟨g0, g1, g2, g3, g4, g5⟩ := BU.cells
      have K19 := rspSame19 (.slice u1 u2 u3) (.slice u4 u5 u6) (.slice u7 u8 u9) (.slice s1 s2 s3) (.slice s4 s5 s6) (.slice s7 y8 s9) bs st en2 bs st en2 ms cs ps ms cs ps X8 hsu8 hsl8
      have es : (sameG ms cs ps bs ms cs ps bs && decide (st = st) && decide (en2 = en2)) = true := by unfold sameG; simp
      rw [es] at K19
      clear hs8' hb8 bb8 hsl8 hsu8 hXd hX7 d0 d1 d2 d3 d4 d5 es
      go_wp2_with fail
      refine K19.mono ?_
      rintro e w9 ⟨rfl, hb9⟩
      have HB : Hid (Below w.heap.size w w9) := below_tr HB.out hb9
      clear hb9 K19
      go_wp2_with fail
      refine (awake10 w9).mono ?_
      rintro e wz ⟨rfl, hbz⟩
      have HBz : Hid (Below w.heap.size w wz) := below_tr HB.out hbz
      go_wp2
      go_ret
      exact ⟨rfl, HBz.out⟩
    · have hae' : ((en : Int) ≤ (a : Int)) = False := by simp; omega
      clear hen2 hnp
      go_wp2_with fail
      refine K11.mono ?_
      rintro e w7 ⟨R, at_, hmm, z1, z2, z3, z4, z5, z6, z7, z8, z9, rfl, hs7, hb7⟩
      clear K11
      have HMM : Hid (MmIs ms cs ps bs st en 0 n prot false R at_) := hmm
      obtain ⟨err, herr⟩ : ∃ z, R.1 = z := ⟨_, rfl⟩
      rw [herr]
      obtain ⟨Xd, X7, hXd, hX7, ⟨i0, i1, i2, i3, i4, i5⟩, ⟨j0, j1, j2, j3, j4, j5⟩, BZ, bb7⟩ := new6 w7 (.slice z1 z2 z3) (.slice z4 z5 z6) (.int .u64 (bs : Int)) (.slice z7 z8 z9) (.int .u32 (st : Int)) (.int .u32 (en : Int))
      have BS := (BS.keep hb7).keep bb7
      have HB : Hid (Below w.heap.size w X7) := below_tr HB.out (below_tr hb7 bb7)
      have HSL : Hid (SlG X7 (.slice s1 s2 s3) (.slice s4 s5 s6) (.slice s7 s8 s9) ms cs ps) := (HSL.out.keep hb7).keep bb7
      have HSZ : Hid (SlG X7 (.slice z1 z2 z3) (.slice z4 z5 z6) (.slice z7 z8 z9) R.2.1 R.2.2.1 R.2.2.2) := hs7.keep bb7
      obtain ⟨c0, c1, c2, c3, c4, c5⟩ := BS.cells
      obtain ⟨d0, d1, d2, d3, d4, d5⟩ := BZ.cells
      clear hs7 hb7 bb7 hmm hXc hX6 g0 g1 g2 g3 g4 g5
      by_cases h0 : err = 0
      case neg =>
        have h0' : (err != 0) = true := by simp [h0]
        go_wp2_with fail
        refine (awake10 X7).mono ?_
        rintro e wz ⟨rfl, hbz⟩
        have HBz : Hid (Below w.heap.size w wz) := below_tr HB.out hbz
        go_wp2
        go_ret
        exact ⟨rfl, HBz.out⟩
      obtain ⟨m1, m2, m3⟩ := mm_back HQ.out.1 HWO.out HRC.out HMM.out (herr.trans h0)
      have K13 := munmap13 (.slice z1 z2 z3) (.slice z4 z5 z6) (.slice z7 z8 z9) bs st en at_ n R.2.1 R.2.2.1 R.2.2.2 X7 HSZ.out m3.2.2 m3.2.1 m3.1 m2 HR.out.2.2.2.1
      rw [m1] at K13
      subst h0
      clear m1 m2 m3 herr
      go_wp2_with fail
      refine K13.mono ?_
      rintro e w8 ⟨u1, u2, u3, u4, u5, u6, u7, u8, u9, rfl, hs8', hb8⟩
      clear K13
      obtain ⟨Xe, X8, hXe, hX8, ⟨i0, i1, i2, i3, i4, i5⟩, ⟨j0, j1, j2, j3, j4, j5⟩, BU, bb8⟩ := new6 w8 (.slice u1 u2 u3) (.slice u4 u5 u6) (.int .u64 (bs : Int)) (.slice u7 u8 u9) (.int .u32 (st : Int)) (.int .u32 (en : Int))
      have BS := (BS.keep hb8).keep bb8
      have HB : Hid (Below w.heap.size w X8) := below_tr HB.out (below_tr hb8 bb8)
      have hsl8 := (HSL.out.keep hb8).keep bb8
      have hsu8 := hs8'.keep bb8
      obtain ⟨c0, c1, c2, c3, c4, c5⟩ := BS.cells
      obtain ⟨g0, g1, g2, g3, g4, g5⟩ := BU.cells
      have K19 := rspSame19 (.slice u1 u2 u3) (.slice u4 u5 u6) (.slice u7 u8 u9) (.slice s1 s2 s3) (.slice s4 s5 s6) (.slice s7 s8 s9) bs st en bs st en ms cs ps ms cs ps X8 hsu8 hsl8
      have es : (sameG ms cs ps bs ms cs ps bs && decide (st = st) && decide (en = en)) = true := by unfold sameG; simp
      rw [es] at K19
      clear hs8' hb8 bb8 hsl8 hsu8 hXd hX7 d0 d1 d2 d3 d4 d5 es
      go_wp2_with fail
      refine K19.mono ?_
      rintro e w9 ⟨rfl, hb9⟩
      have HB : Hid (Below w.heap.size w w9) := below_tr HB.out hb9
      clear hb9 K19
      go_wp2_with fail
      refine (awake10 w9).mono ?_
      rintro e wz ⟨rfl, hbz⟩
      have HBz : Hid (Below w.heap.size w wz) := below_tr HB.out hbz
      go_wp2
      go_ret
      exact ⟨rfl, HBz.out⟩
end Go.Proofs.YtkpmkgkfpikpfaaGreat
