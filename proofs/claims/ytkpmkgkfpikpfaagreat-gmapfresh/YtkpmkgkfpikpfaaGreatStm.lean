/- What is proved here: the law GmapFresh, walked. -/
import Derived.Test.YtkpmkgkfpikpfaaGreatStl
import Derived.Test.YtkpmkgkfpikpfaaGreatStk
import Derived.Test.YtkpmkgkfpikpfaaGreatEach
import Derived.LoopTactic
namespace Go.Proofs.YtkpmkgkfpikpfaaGreat
open Go.RowKit
set_option linter.unusedVariables false
set_option linter.unusedSimpArgs false
set_option maxRecDepth 100000
set_option maxHeartbeats 8000000 in
theorem fresh_walk (vm vc vp : Value) (ms cs ps : List (Nat × Int)) (bs st en : Nat) (w : World) (hsl : SlG w vm vc vp ms cs ps) (hrc : ∀ y ∈ cs, y.1 < 18446744073709551616) (hw : Words cs) (hbs : bs < 18446744073709551616) (hst : st < 4294967296) (hen : en < 4294967296) (a n : Nat) (prot : Int) (ha : a < 4294967296) (hn : n < 4294967296) :
    Calls Tryz.prog 4 #[.agg #[vm, vc, .int .u64 (bs : Int), vp, .int .u32 (st : Int), .int .u32 (en : Int)], .int .u32 (a : Int), .int .u32 (n : Int), .int .i64 prot] w fun e w' => e = .returned (.bool true) ∧ Below w.heap.size w w' := by
  obtain ⟨s1, s3, rfl, l0a, l0b⟩ : ∃ x p, vm = .slice x ms.length p ∧ ms.length ≤ p ∧ p ≤ 9223372036854775807 := by obtain ⟨x, p, h, h1, h2, _⟩ := id hsl.1; exact ⟨_, _, h, h1, h2⟩
  obtain ⟨s4, s6, rfl, l1a, l1b⟩ : ∃ x p, vc = .slice x cs.length p ∧ cs.length ≤ p ∧ p ≤ 9223372036854775807 := by obtain ⟨x, p, h, h1, h2, _⟩ := id hsl.2.1; exact ⟨_, _, h, h1, h2⟩
  obtain ⟨s7, s9, rfl, l2a, l2b⟩ : ∃ x p, vp = .slice x ps.length p ∧ ps.length ≤ p ∧ p ≤ 9223372036854775807 := by obtain ⟨x, p, h, h1, h2, _⟩ := id hsl.2.2; exact ⟨_, _, h, h1, h2⟩
  obtain ⟨s2, hs2⟩ : ∃ z, z = ms.length := ⟨_, rfl⟩
  obtain ⟨s5, hs5⟩ : ∃ z, z = cs.length := ⟨_, rfl⟩
  obtain ⟨s8, hs8⟩ : ∃ z, z = ps.length := ⟨_, rfl⟩
  have l8 : s8 < 9223372036854775808 := by omega
  rw [← hs2, ← hs5, ← hs8] at hsl ⊢
  clear l0a l0b l1a l1b l2a l2b hs2 hs5
  have HS8 : Hid (s8 = ps.length) := hs8
  clear hs8
  obtain ⟨X, hX, BS, hb⟩ := box6S w (.slice s1 s2 s3) (.slice s4 s5 s6) (.int .u64 (bs : Int)) (.slice s7 s8 s9) (.int .u32 (st : Int)) (.int .u32 (en : Int))
  obtain ⟨c0, c1, c2, c3, c4, c5⟩ := BS.cells
  have K7 := few7 (.slice s1 s2 s3) (.slice s4 s5 s6) (.slice s7 s8 s9) bs st en ms cs ps X (hsl.keep hb)
  have K9 : Hid (∀ w', Below X.heap.size X w' → Calls Tryz.prog 9 #[.agg #[.slice s1 s2 s3, .slice s4 s5 s6, .int .u64 (bs : Int), .slice s7 s8 s9, .int .u32 (st : Int), .int .u32 (en : Int)]] w' fun e w'' => e = .returned (.bool (spFit ms cs ps bs st en)) ∧ Below w'.heap.size w' w'') := fun w' hb' =>
    rspFit9 (.slice s1 s2 s3) (.slice s4 s5 s6) (.slice s7 s8 s9) bs st en ms cs ps w' (hsl.keep (below_tr hb hb')) hrc hbs
  have HSL : Hid (SlG X (.slice s1 s2 s3) (.slice s4 s5 s6) (.slice s7 s8 s9) ms cs ps) := hsl.keep hb
  have HRC : Hid (∀ y ∈ cs, y.1 < 18446744073709551616) := hrc
  have HWO : Hid (Words cs) := hw
  have HR : Hid (st < 4294967296 ∧ en < 4294967296 ∧ a < 4294967296 ∧ n < 4294967296 ∧ bs < 18446744073709551616) := ⟨hst, hen, ha, hn, hbs⟩
  have HB : Hid (Below w.heap.size w X) := hb
  clear hsl hrc hw hb hst hen ha hn hbs
  by_cases hfew : ms.length ≤ 70 ∧ cs.length ≤ 100 ∧ ps.length ≤ 80
  case neg =>
    rw [decide_eq_false hfew] at K7
    clear hfew
    go_enter Tryz.func4, Tryz.ntmps4
    go_wp2_with fail
    refine K7.mono ?_
    rintro e w1 ⟨rfl, hb1⟩
    have HB1 : Hid (Below w.heap.size w w1) := below_tr HB.out hb1
    clear hb1
    go_wp2_with fail
    refine (awake10 w1).mono ?_
    rintro e wz ⟨rfl, hbz⟩
    have HBz : Hid (Below w.heap.size w wz) := below_tr HB1.out hbz
    go_wp2
    go_ret
    exact ⟨rfl, HBz.out⟩
  rw [decide_eq_true hfew] at K7
  clear hfew
  cases hfit : spFit ms cs ps bs st en with
  | false =>
    rw [hfit] at K9
    clear hfit
    go_enter Tryz.func4, Tryz.ntmps4
    go_wp2_with fail
    refine K7.mono ?_
    rintro e w1 ⟨rfl, hb1⟩
    have K9 := K9.out w1 hb1
    obtain ⟨c0, c1, c2, c3, c4, c5⟩ := (BS.keep hb1).cells
    have HB1 : Hid (Below w.heap.size w w1) := below_tr HB.out hb1
    clear hb1 BS
    go_wp2_with fail
    refine K9.mono ?_
    rintro e w2 ⟨rfl, hb2⟩
    have HB2 : Hid (Below w.heap.size w w2) := below_tr HB1.out hb2
    clear hb2 K9
    go_wp2_with fail
    refine (awake10 w2).mono ?_
    rintro e wz ⟨rfl, hbz⟩
    have HBz : Hid (Below w.heap.size w wz) := below_tr HB2.out hbz
    go_wp2
    go_ret
    exact ⟨rfl, HBz.out⟩
  | true =>
  rw [hfit] at K9
  have HQ : Hid (FitG ms cs ps bs ∧ st % 4096 = 0 ∧ st ≤ en) := of_spFit hfit
  clear hfit
  go_enter Tryz.func4, Tryz.ntmps4
  go_wp2_with fail
  refine K7.mono ?_
  rintro e w1 ⟨rfl, hb1⟩
  have K9 := K9.out w1 hb1
  have BS := BS.keep hb1
  obtain ⟨c0, c1, c2, c3, c4, c5⟩ := BS.cells
  have HB : Hid (Below w.heap.size w w1) := below_tr HB.out hb1
  have HSL : Hid (SlG w1 (.slice s1 s2 s3) (.slice s4 s5 s6) (.slice s7 s8 s9) ms cs ps) := HSL.out.keep hb1
  clear hb1 K7 hX
  go_wp2_with fail
  refine K9.mono ?_
  rintro e w2 ⟨rfl, hb2⟩
  have BS := BS.keep hb2
  obtain ⟨c0, c1, c2, c3, c4, c5⟩ := BS.cells
  have HB : Hid (Below w.heap.size w w2) := below_tr HB.out hb2
  have HSL : Hid (SlG w2 (.slice s1 s2 s3) (.slice s4 s5 s6) (.slice s7 s8 s9) ms cs ps) := HSL.out.keep hb2
  clear hb2 K9
  have K11 := mmap11 (.slice s1 s2 s3) (.slice s4 s5 s6) (.slice s7 s8 s9) bs st en a n prot false ms cs ps w2 HSL.out HRC.out HWO.out HQ.out.1 HR.out.1 HR.out.2.1 HR.out.2.2.1 HR.out.2.2.2.1
  go_wp2_with fail
  refine K11.mono ?_
  rintro e w3 ⟨R, at_, hmm, x1, x2, x3, x4, x5, x6, x7, x8, x9, rfl, hs3, hb3⟩
  clear K11
  have HMM : Hid (MmIs ms cs ps bs st en a n prot false R at_) := hmm
  obtain ⟨err, herr⟩ : ∃ z, R.1 = z := ⟨_, rfl⟩
  rw [herr]
  obtain ⟨Xa, X3, hXa, hX3, ⟨i0, i1, i2, i3, i4, i5⟩, ⟨j0, j1, j2, j3, j4, j5⟩, BX, bb3⟩ := new6 w3 (.slice x1 x2 x3) (.slice x4 x5 x6) (.int .u64 (bs : Int)) (.slice x7 x8 x9) (.int .u32 (st : Int)) (.int .u32 (en : Int))
  have BS := (BS.keep hb3).keep bb3
  have HB : Hid (Below w.heap.size w X3) := below_tr HB.out (below_tr hb3 bb3)
  have HSL : Hid (SlG X3 (.slice s1 s2 s3) (.slice s4 s5 s6) (.slice s7 s8 s9) ms cs ps) := (HSL.out.keep hb3).keep bb3
  have HSX : Hid (SlG X3 (.slice x1 x2 x3) (.slice x4 x5 x6) (.slice x7 x8 x9) R.2.1 R.2.2.1 R.2.2.2) := hs3.keep bb3
  obtain ⟨c0, c1, c2, c3, c4, c5⟩ := BS.cells
  obtain ⟨d0, d1, d2, d3, d4, d5⟩ := BX.cells
  clear hs3 hb3 bb3 hmm
  by_cases h0 : err = 0
  case neg =>
    have h0' : (err != 0) = true := by simp [h0]
    obtain ⟨e1, rfl⟩ := mm_no HMM.out (by rw [herr]; exact h0)
    have K19 := rspSame19 (.slice x1 x2 x3) (.slice x4 x5 x6) (.slice x7 x8 x9) (.slice s1 s2 s3) (.slice s4 s5 s6) (.slice s7 s8 s9) bs st en bs st en R.2.1 R.2.2.1 R.2.2.2 ms cs ps X3 HSX.out HSL.out
    have es : (sameG R.2.1 R.2.2.1 R.2.2.2 bs ms cs ps bs && decide (st = st) && decide (en = en)) = true := by
      rw [e1]
      unfold sameG
      simp
    rw [es] at K19
    clear es e1 HMM HSX herr
    go_wp2_with fail
    refine K19.mono ?_
    rintro e w4 ⟨rfl, hb4⟩
    have HB : Hid (Below w.heap.size w w4) := below_tr HB.out hb4
    clear hb4 K19
    go_wp2_with fail
    refine (awake10 w4).mono ?_
    rintro e wz ⟨rfl, hbz⟩
    have HBz : Hid (Below w.heap.size w wz) := below_tr HB.out hbz
    go_wp2
    go_ret
    exact ⟨rfl, HBz.out⟩
  obtain ⟨f, hat, m1, m2, m3, m4, m5, m6⟩ := mm_yes HQ.out.1 HMM.out (herr.trans h0)
  obtain ⟨kk, hkk⟩ : ∃ z, z = pgN n := ⟨_, rfl⟩
  rw [← hkk] at m2 m3 m4 m5
  have K20 := count20 n X3 HR.out.2.2.2.1
  rw [← hkk] at K20
  have KPs : Hid (∀ g w', Below X3.heap.size X3 w' → Calls Tryz.prog 21 #[.agg #[.slice s1 s2 s3, .slice s4 s5 s6, .int .u64 (bs : Int), .slice s7 s8 s9], .int .u32 ((g : Nat) : Int)] w' fun e w'' => e = .returned (.int .i64 (protN ps g)) ∧ Below w'.heap.size w' w'') := fun g w' hb' => rprot15 (.slice s1 s2 s3) (.slice s4 s5 s6) (.slice s7 s8 s9) bs g ps w' ⟨_, _, _, rfl⟩ ⟨_, _, _, rfl⟩ (HSL.out.keep hb').2.2
  obtain ⟨ps', hps'⟩ : ∃ z, z = R.2.2.2 := ⟨_, rfl⟩
  have KPx : Hid (∀ g w', Below X3.heap.size X3 w' → Calls Tryz.prog 21 #[.agg #[.slice x1 x2 x3, .slice x4 x5 x6, .int .u64 (bs : Int), .slice x7 x8 x9], .int .u32 ((g : Nat) : Int)] w' fun e w'' => e = .returned (.int .i64 (protN ps' g)) ∧ Below w'.heap.size w' w'') := fun g w' hb' => by rw [hps']; exact rprot15 (.slice x1 x2 x3) (.slice x4 x5 x6) (.slice x7 x8 x9) bs g R.2.2.2 w' ⟨_, _, _, rfl⟩ ⟨_, _, _, rfl⟩ (HSX.out.keep hb').2.2
  rw [← hps'] at m4 m5 m6
  have HIN : Hid (∀ i : Nat, i < kk → protN ps (f + i) = -1 ∧ protN ps' (f + i) = prot) := m5
  have HEL : Hid (∀ x ∈ ps, protN ps' x.1 = x.2) := m6
  have hx8 : x8 = s8 + kk := by
    obtain ⟨_, _, e8, _⟩ := id HSX.out.2.2
    rw [← hps'] at e8
    have h8 := HS8.out
    cases e8
    omega
  have u1 : (at_ : Int).tmod 4096 = 0 := by rw [Int.tmod_eq_emod_of_nonneg (by omega)]; omega
  have u2 : (at_ : Int) % 4096 = 0 := by omega
  have u3 : ((at_ : Int) = 0) = False := by simp; omega
  have u3q : ((at_ : Int) == 0) = false := by simp; omega
  have u3' : (at_ = 0) = False := by simp; omega
  have u4 : ((1879048192 : Int) ≤ (at_ : Int)) = False := by simp; omega
  have u4' : (1879048192 ≤ at_) = False := by simp; omega
  have lps : s8 ≤ 256 := by rw [HS8.out]; exact HQ.out.1.lp
  have u5 : wrap64 ((s8 : Int) + (kk : Int)) = (x8 : Int) := by unfold wrap64; omega
  have u6 : IntKind.i64.wrap (kk : Int) = (kk : Int) := by rw [IntKind.wrap_i64]; omega
  have z1 : IntKind.u32.wrap ((at_ : Int) / 4096) = (f : Int) := by rw [IntKind.wrap_u32]; omega
  have z2 : (at_ : Int) / 4096 = (f : Int) := by omega
  have z2' : (at_ : Int).tdiv 4096 = (f : Int) := by rw [Int.tdiv_eq_ediv_of_nonneg (by omega)]; omega
  have z3 : IntKind.u32.wrap (f : Int) = (f : Int) := by rw [IntKind.wrap_u32]; omega
  have hfb : f + kk ≤ 458752 := m2
  subst h0
  clear m1 m2 m3 m4 m5 m6 hps' hkk herr hat hx8 HMM l8 lps HSX
  go_wp2_with fail
  refine K20.mono ?_
  rintro e w9 ⟨rfl, rfl⟩
  clear K20
  go_wp2
  clear u1 u2 u3 u3q u3' u4 u4' u5 u6 hXa hX3 i0 i1 i2 i3 i4 i5 j0 j1 j2 j3 j4 j5
  go_loopw [74] (fun i wr => ∃ k : Nat, k ≤ kk ∧ i = .int .u32 (k : Int) ∧ Below w9.heap.size w9 wr) (fun i _ => kk - (intOf i).toNat)
  case atStart => exact ⟨0, Nat.zero_le _, rfl, Below.refl _ _⟩
  case round =>
    obtain ⟨k, hk, rfl, hbr⟩ := hrel
    have BSr := BS.keep hbr
    have BXr := BX.keep hbr
    obtain ⟨c0, c1, c2, c3, c4, c5⟩ := BSr.cells
    obtain ⟨d0, d1, d2, d3, d4, d5⟩ := BXr.cells
    by_cases hkl : k < kk
    · obtain ⟨p1, p2⟩ := HIN.out k hkl
      obtain ⟨g, hg⟩ : ∃ z, z = f + k := ⟨_, rfl⟩
      rw [← hg] at p1 p2
      have y1 : IntKind.u32.wrap ((f : Int) + (k : Int)) = (g : Int) := by rw [IntKind.wrap_u32]; omega
      have y2 : ((f : Int) + (k : Int)) % 4294967296 = (g : Int) := by omega
      have kl' : ((k : Int) < (kk : Int)) = True := by simp; omega
      have K1 := KPs.out g wr hbr
      rw [p1] at K1
      clear p1 hg BSr BXr
      go_wp2_with fail
      refine K1.mono ?_
      rintro e w5 ⟨rfl, hb5⟩
      have K2 := KPx.out g w5 (below_tr hbr hb5)
      rw [p2] at K2
      have d0 := keep_cell hb5 d0
      have d1 := keep_cell hb5 d1
      have d2 := keep_cell hb5 d2
      have d3 := keep_cell hb5 d3
      clear K1 p2
      go_wp2_with fail
      refine K2.mono ?_
      rintro e w6 ⟨rfl, hb6⟩
      have hbz := below_tr hbr (below_tr hb5 hb6)
      clear K2 hb5 hb6 y1 y2
      go_wp2
      go_roundw
      case rel => exact ⟨k + 1, by omega, by go_num, hbz⟩
      case measure => simp [intOf]; omega
    · obtain rfl : k = kk := by omega
      have kl' : ((k : Int) < (k : Int)) = False := by simp
      have BS := BSr
      have BX := BXr
      have HB : Hid (Below w.heap.size w wr) := below_tr HB.out hbr
      have HSL : Hid (SlG wr (.slice s1 s2 s3) (.slice s4 s5 s6) (.slice s7 s8 s9) ms cs ps) := HSL.out.keep hbr
      have KPx : Hid (∀ g w', Below wr.heap.size wr w' → Calls Tryz.prog 21 #[.agg #[.slice x1 x2 x3, .slice x4 x5 x6, .int .u64 (bs : Int), .slice x7 x8 x9], .int .u32 ((g : Nat) : Int)] w' fun e w'' => e = .returned (.int .i64 (protN ps' g)) ∧ Below w'.heap.size w' w'') := fun g w' hb' => KPx.out g w' (below_tr hbr hb')
      obtain ⟨W9, rfl⟩ : ∃ z, z = wr := ⟨_, rfl⟩
      obtain ⟨s8', hs8⟩ : ∃ z, z = ps.length := ⟨_, rfl⟩
      obtain rfl : s8 = s8' := HS8.out.trans hs8.symm
      have HX : Hid (∀ i (h : i < ps.length), ∃ b o, s7 = some ⟨b, o, none⟩ ∧ W9.cell? ⟨b, o + i * 2, none⟩ = some (.int .u32 (ps[i].1 : Int)) ∧ W9.cell? ⟨b, o + i * 2 + 1, none⟩ = some (.int .i64 ps[i].2)) := by
        obtain ⟨ao, cap, e, _, _, _, g⟩ := HSL.out.2.2
        cases e
        exact g
      clear hbr KPs HIN hkl BSr BXr z1 z2 z2' z3 hfb hk
      have l8 : s8 < 9223372036854775808 := by
        obtain ⟨_, _, e8, q1, q2, _⟩ := id HSL.out.2.2
        cases e8
        omega
      have hb9 : Below W9.heap.size W9 W9 := Below.refl _ _
      have HS8 : Hid (s8 = ps.length) := hs8
      clear hs8
      go_wp2
      go_loopw [101] (fun i wr => ∃ k : Nat, k ≤ s8 ∧ i = .int .i64 (k : Int) ∧ Below W9.heap.size W9 wr) (fun i _ => s8 - (intOf i).toNat)
      case atStart => exact ⟨0, Nat.zero_le _, rfl, Below.refl _ _⟩
      case round =>
        obtain ⟨k, hk, rfl, hbr⟩ := hrel
        have BSr := BS.keep hbr
        have BXr := BX.keep hbr
        obtain ⟨c0, c1, c2, c3, c4, c5⟩ := BSr.cells
        obtain ⟨d0, d1, d2, d3, d4, d5⟩ := BXr.cells
        by_cases hkl : k < s8
        · obtain ⟨b, o, rfl, q0, q1⟩ := HX.out k (by rw [← HS8.out]; exact hkl)
          have e0' := keep_cell hbr q0
          have e1' := keep_cell hbr q1
          have hpr := HEL.out _ (List.getElem_mem (by rw [← HS8.out]; exact hkl : k < ps.length))
          generalize ps[k].1 = p at e0' hpr
          generalize ps[k].2 = r at e1' hpr
          clear q0 q1
          obtain ⟨W5', hW5', hb5, hsz5, l0, l1, _, _⟩ := box2 wr (.int .u32 (p : Int)) (.int .i64 r) 53
          have d0 := keep_cell hb5 d0
          have d1 := keep_cell hb5 d1
          have d2 := keep_cell hb5 d2
          have d3 := keep_cell hb5 d3
          clear BSr BXr
          go_wp2
          refine wp_region_slots (R := Ext) [⟨105, fun v _ => v = .pointer (some ⟨w3.heap.size, 0, none⟩), fun _ _ _ _ h => h⟩, ⟨106, fun v _ => v = .agg #[.slice x1 x2 x3, .slice x4 x5 x6, .int .u64 (bs : Int), .slice x7 x8 x9], fun _ _ _ _ h => h⟩, ⟨107, fun v _ => v = .pointer (some ⟨wr.heap.size, 0, none⟩), fun _ _ _ _ h => h⟩, ⟨108, fun v _ => v = .int .u32 (p : Int), fun _ _ _ _ h => h⟩, ⟨109, fun v _ => v = .int .i64 r, fun _ _ _ _ h => h⟩, ⟨110, fun v _ => v = .pointer (some ⟨wr.heap.size, 1, none⟩), fun _ _ _ _ h => h⟩, ⟨111, fun v _ => v = .int .i64 r, fun _ _ _ _ h => h⟩, ⟨112, fun v _ => v = .bool false, fun _ _ _ _ h => h⟩] _ (by kernel_rfl) rfl (by kernel_rfl) (Below.drew (Below.refl _ _)) (fun _ _ _ h1 h2 => below_tr h1 h2) (fun QQ => ⟨?_, ?_, ?_, ?_, ?_, ?_, ?_, ?_, trivial⟩) (fun f wy hR hf => ?_)
          · intro A wx hR hout hdep K hK
            have h9 : A.tmps[9]?.getD undef = .pointer (some ⟨w3.heap.size, 0, none⟩) := hout 9 (by kernel_rfl)
            refine if_yes (by kernel_rfl) ?_
            simp [go_sem, h9]
            exact hK.out _ _ (Below.refl _ _) rfl
          · intro A wx hR hout hdep K hK
            have h105 : A.tmps[105]?.getD undef = .pointer (some ⟨w3.heap.size, 0, none⟩) := hdep 105 (by kernel_rfl)
            refine if_yes (by kernel_rfl) ?_
            have d0 := keep_cell hR d0
            have d1 := keep_cell hR d1
            have d2 := keep_cell hR d2
            have d3 := keep_cell hR d3
            have l0 := keep_cell hR l0
            have l1 := keep_cell hR l1
            simp [go_sem, h105, d0, d1, d2, d3, l0, l1]
            exact hK.out _ _ (Below.refl _ _) rfl
          · intro A wx hR hout hdep K hK
            have h15 : A.tmps[15]?.getD undef = .pointer (some ⟨wr.heap.size, 0, none⟩) := hout 15 (by kernel_rfl)
            refine if_yes (by kernel_rfl) ?_
            simp [go_sem, h15]
            exact hK.out _ _ (Below.refl _ _) rfl
          · intro A wx hR hout hdep K hK
            have h107 : A.tmps[107]?.getD undef = .pointer (some ⟨wr.heap.size, 0, none⟩) := hdep 107 (by kernel_rfl)
            refine if_yes (by kernel_rfl) ?_
            have d0 := keep_cell hR d0
            have d1 := keep_cell hR d1
            have d2 := keep_cell hR d2
            have d3 := keep_cell hR d3
            have l0 := keep_cell hR l0
            have l1 := keep_cell hR l1
            simp [go_sem, h107, d0, d1, d2, d3, l0, l1]
            exact hK.out _ _ (Below.refl _ _) rfl
          · intro A wx hR hout hdep K hK
            have h106 : A.tmps[106]?.getD undef = .agg #[.slice x1 x2 x3, .slice x4 x5 x6, .int .u64 (bs : Int), .slice x7 x8 x9] := hdep 106 (by kernel_rfl)
            have h108 : A.tmps[108]?.getD undef = .int .u32 (p : Int) := hdep 108 (by kernel_rfl)
            refine if_yes (by kernel_rfl) ?_
            simp [go_sem, h106, h108]
            refine (KPx.out p _ (below_tr hb9 (below_tr (below_tr hbr hb5) hR))).mono ?_
            rintro e wG ⟨rfl, hbG⟩
            rw [hpr]
            exact hK.out _ _ hbG rfl
          · intro A wx hR hout hdep K hK
            have h15 : A.tmps[15]?.getD undef = .pointer (some ⟨wr.heap.size, 0, none⟩) := hout 15 (by kernel_rfl)
            refine if_yes (by kernel_rfl) ?_
            simp [go_sem, h15]
            exact hK.out _ _ (Below.refl _ _) rfl
          · intro A wx hR hout hdep K hK
            have h110 : A.tmps[110]?.getD undef = .pointer (some ⟨wr.heap.size, 1, none⟩) := hdep 110 (by kernel_rfl)
            refine if_yes (by kernel_rfl) ?_
            have d0 := keep_cell hR d0
            have d1 := keep_cell hR d1
            have d2 := keep_cell hR d2
            have d3 := keep_cell hR d3
            have l0 := keep_cell hR l0
            have l1 := keep_cell hR l1
            simp [go_sem, h110, d0, d1, d2, d3, l0, l1]
            exact hK.out _ _ (Below.refl _ _) rfl
          · intro A wx hR hout hdep K hK
            have h109 : A.tmps[109]?.getD undef = .int .i64 r := hdep 109 (by kernel_rfl)
            have h111 : A.tmps[111]?.getD undef = .int .i64 r := hdep 111 (by kernel_rfl)
            refine if_yes (by kernel_rfl) ?_
            simp [go_sem, h109, h111]
            exact hK.out _ _ (Below.refl _ _) rfl
          simp only [putSl, Act.put, List.setIfInBounds_toArray, List.set_cons_zero, List.set_cons_succ]
          have hz : f 112 = .bool false := hf 112 (by kernel_rfl)
          rw [hz]
          have hbz := below_tr (below_tr hbr hb5) hR
          clear hf hz
          go_wp2
          go_roundw
          case rel => exact ⟨k + 1, by omega, by go_num, hbz⟩
          case measure => simp [intOf]; omega
        · obtain rfl : k = s8 := by omega
          have HB : Hid (Below w.heap.size w wr) := below_tr HB.out hbr
          clear hbr HX BSr BXr
          go_wp2_with fail
          refine (awake10 wr).mono ?_
          rintro e wz ⟨rfl, hbz⟩
          have HBz : Hid (Below w.heap.size w wz) := below_tr HB.out hbz
          go_wp2
          go_ret
          exact ⟨rfl, HBz.out⟩
end Go.Proofs.YtkpmkgkfpikpfaaGreat
