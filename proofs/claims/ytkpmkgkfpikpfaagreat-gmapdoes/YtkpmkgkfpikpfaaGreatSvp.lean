/- What is proved here: the document's Mmap. -/
import Derived.Test.YtkpmkgkfpikpfaaGreatSvb
import Derived.Test.YtkpmkgkfpikpfaaGreatStj
import Derived.Test.YtkpmkgkfpikpfaaGreatSvf
import Derived.Test.YtkpmkgkfpikpfaaGreatStg
namespace Go.Proofs.YtkpmkgkfpikpfaaGreat
open Go.RowKit
set_option linter.unusedVariables false
set_option linter.unusedSimpArgs false
set_option maxRecDepth 100000
set_option maxHeartbeats 4000000 in
theorem rmmap12 (vm vc vp : Value) (bs st en a n : Nat) (prot : Int) (fixed : Bool) (ms cs ps : List (Nat × Int)) (w : World) (hsl : SlG w vm vc vp ms cs ps) (hrc : ∀ y ∈ cs, y.1 < 18446744073709551616) (hw : Words cs) (hf : FitG ms cs ps bs) (hst : st < 4294967296) (hen : en < 4294967296) (ha : a < 4294967296) (hn : n < 4294967296) :
  Calls Tryz.prog 12 #[.agg #[vm, vc, .int .u64 (bs : Int), vp, .int .u32 (st : Int), .int .u32 (en : Int)], .int .u32 (a : Int), .int .u32 (n : Int), .int .i64 prot, .bool fixed] w fun e w' => ∃ R at_, MmIs ms cs ps bs st en a n prot fixed R at_ ∧ MTold R at_ bs st en w e w' := by
 obtain ⟨am, nm, pm, ac, nc, pc, ap, np, pp, rfl, rfl, rfl⟩ := hsl.shape
 obtain ⟨Xa, X, nR, hXa, hX, hnR, BG, BR, hb, l1, l2⟩ := new2S w (.slice am nm pm) (.slice ac nc pc) (.int .u64 (bs : Int)) (.slice ap np pp) (.int .u32 (st : Int)) (.int .u32 (en : Int))
 obtain ⟨nG, hnG⟩ : ∃ z, w.heap.size = z := ⟨_, rfl⟩
 rw [hnG] at BG l1
 obtain ⟨c0, c1, c2, c3, c4, c5⟩ := BG.cells
 have HNE : Hid (w.heap.size = nG ∧ nG < nR ∧ nR < X.heap.size) := ⟨hnG, l1, l2⟩
 have SP0 : Sp w X nG nR (.slice am nm pm) (.slice ac nc pc) (.int .u64 (bs : Int)) (.slice ap np pp) (.int .u32 (st : Int)) (.int .u32 (en : Int)) := ⟨BG, BR, hb, by omega⟩
 have HSX : Hid (SlG X (.slice am nm pm) (.slice ac nc pc) (.slice ap np pp) ms cs ps) := hsl.keep hb
 obtain ⟨fi, hfi⟩ : ∃ z, z = a / 4096 := ⟨_, rfl⟩
 obtain ⟨pg, hpg⟩ : ∃ z, z = pgN n := ⟨_, rfl⟩
 have hpl : pg ≤ 1048576 := by rw [hpg, pgN]; omega
 have hfl : fi < 1048576 := by omega
 obtain ⟨r, hr⟩ : ∃ z, z = a % 4096 := ⟨_, rfl⟩
 have x1' : (a : Int) % 4096 = (r : Int) := by omega
 have x1'' : (a : Int).tmod 4096 = (r : Int) := by rw [Int.tmod_eq_emod_of_nonneg (by omega)]; omega
 have w1' : (a : Int) / 4096 = (fi : Int) := by omega
 have w2' : (a : Int).tdiv 4096 = (fi : Int) := by rw [Int.tdiv_eq_ediv_of_nonneg (by omega)]; omega
 obtain ⟨lf, hlf⟩ : ∃ z, z = 1048576 - fi := ⟨_, rfl⟩
 have w3' : IntKind.u32.wrap (1048576 - (fi : Int)) = (lf : Int) := by rw [IntKind.wrap_u32]; omega
 have w4' : 1048576 - (fi : Int) = (lf : Int) := by omega
 have w6' : IntKind.u32.wrap (fi : Int) = (fi : Int) := by rw [IntKind.wrap_u32]; omega
 have K20 : Hid (∀ w', Calls Tryz.prog 20 #[.int .u32 (n : Int)] w' fun e w'' => e = .returned (.int .u32 (pg : Int)) ∧ w'' = w') := fun w' => by rw [hpg]; exact count20 n w' hn
 have HM : Hid (∀ f : Nat, f < 4294967296 → ∀ w', Below X.heap.size X w' → Calls Tryz.prog 32 #[.agg #[.slice am nm pm, .slice ac nc pc, .int .u64 (bs : Int), .slice ap np pp], .int .u32 (f : Int), .int .u32 (pg : Int), .int .i64 prot] w' (GTold (mapR ms cs ps bs f pg prot) bs w')) := fun f hf1 w' hb' => told19 _ _ _ ms cs ps bs f pg prot w' ((hsl.keep hb).keep hb') hrc hw hf1 (by omega) hf
 have HKF : Hid (0 < pg → pg ≤ 256 → ∀ w', Below X.heap.size X w' → Calls Tryz.prog 31 #[.agg #[.slice am nm pm, .slice ac nc pc, .int .u64 (bs : Int), .slice ap np pp, .int .u32 (st : Int), .int .u32 (en : Int)], .int .u32 (pg : Int)] w' fun e w'' => ∃ z : Nat, IsRoom ps st en pg z ∧ e = .returned (.int .u32 ((z * 4096 : Nat) : Int)) ∧ Below w'.heap.size w' w'') := fun h1 h2 w' hb' => rfree31 _ _ _ bs st en pg ms cs ps w' ((hsl.keep hb).keep hb') (fun x hx => (hf.pg x hx).1) hf.lp hst hen h1 h2
 have HKS : Hid (Calls Tryz.prog 30 #[.agg #[.slice am nm pm, .slice ac nc pc, .int .u64 (bs : Int), .slice ap np pp], .int .u32 (fi : Int), .int .u32 (pg : Int)] X fun e w' => e = .returned (.bool (someB ps fi pg)) ∧ Below X.heap.size X w') := rsome30 _ _ _ bs fi pg ps X ⟨_, _, _, rfl⟩ ⟨_, _, _, rfl⟩ (hsl.keep hb).2.2 (fun x hx => by have := (hf.pg x hx).1; omega) (by have := hf.lp; omega)
 have HP : Hid (n ≠ 0 → 0 < pg) := fun h => by show 0 < pg; rw [hpg, pgN]; omega
 have HPN : Hid (pg = pgN n ∧ fi = a / 4096 ∧ r = a % 4096) := ⟨hpg, hfi, hr⟩
 clear hsl hrc hw hf BG BR hb hpg hst hen
 by_cases h1 : n = 0
 ·have HMI : Hid (MmIs ms cs ps bs st en a n prot fixed (22, ms, cs, ps) 0) := .inl ⟨.inl h1, rfl, rfl⟩
  clear HM HKF HKS HP HPN K20 hr hfi hlf
  subst h1
  go_enter Tryz.func12, Tryz.ntmps12
  have SP := SP0
  have hs3 := HSX.out
  clear SP0 HSX
  obtain ⟨m0, m1, m2, m3, m4, m5⟩ := SP.bG.cells
  obtain ⟨q0, q1, q2, q3, q4, q5⟩ := SP.bR.cells
  obtain ⟨f0, f1, f2, f3, f4, f5⟩ := SP.bR.frees
  have HE' : Hid _ := SP.bR.set6 (.slice am nm pm) (.slice ac nc pc) (.int .u64 (bs : Int)) (.slice ap np pp) (.int .u32 (st : Int)) (.int .u32 (en : Int))
  have HS' : Hid _ := slg_S6 hs3 SP.bR am ac ap nm pm nc pc np pp (bs : Int) (st : Int) (en : Int)
  have HW' : Hid _ := S6.below (B := w.heap.size) (b := nR) SP.bl (by have := SP.ne; omega) (.slice am nm pm) (.slice ac nc pc) (.int .u64 (bs : Int)) (.slice ap np pp) (.int .u32 (st : Int)) (.int .u32 (en : Int))
  clear SP hs3
  go_wp2
  obtain ⟨u0, u1, u2, u3, u4, u5⟩ := B6.cells HE'.out
  unfold S6 S4 at u0 u1 u2 u3 u4 u5
  refine bodyPost_ret (v := .tuple #[.agg #[.slice am nm pm, .slice ac nc pc, .int .u64 (bs : Int), .slice ap np pp, .int .u32 (st : Int), .int .u32 (en : Int)], .int .u32 0, .int .i64 22]) ?_ rfl ⟨(22, ms, cs, ps), 0, HMI.out, am, nm, pm, ac, nc, pc, ap, np, pp, rfl, HS'.out, HW'.out⟩
  rw [results_ctt rfl]; simp [go_sem, u0, u1, u2, u3, u4, u5]
 have n1 : ((n : Int) == 0) = false := by simp; omega
 have n2 : (n = 0) = False := by simp [h1]
 have n3 : ((n : Int) = 0) = False := by simp [h1]
 have HPG : Hid (0 < pg) := HP.out h1
 clear HP
 by_cases hp0 : 0 ≤ prot
 case neg =>
  have HMI : Hid (MmIs ms cs ps bs st en a n prot fixed (22, ms, cs, ps) 0) := .inl ⟨.inr (.inl (decide_eq_false (by omega))), rfl, rfl⟩
  have p1 : prot < 0 := by omega
  clear HM HKF HKS HPG HPN K20 hr hfi hlf hp0 h1
  go_enter Tryz.func12, Tryz.ntmps12
  have SP := SP0
  have hs3 := HSX.out
  clear SP0 HSX
  obtain ⟨m0, m1, m2, m3, m4, m5⟩ := SP.bG.cells
  obtain ⟨q0, q1, q2, q3, q4, q5⟩ := SP.bR.cells
  obtain ⟨f0, f1, f2, f3, f4, f5⟩ := SP.bR.frees
  have HE' : Hid _ := SP.bR.set6 (.slice am nm pm) (.slice ac nc pc) (.int .u64 (bs : Int)) (.slice ap np pp) (.int .u32 (st : Int)) (.int .u32 (en : Int))
  have HS' : Hid _ := slg_S6 hs3 SP.bR am ac ap nm pm nc pc np pp (bs : Int) (st : Int) (en : Int)
  have HW' : Hid _ := S6.below (B := w.heap.size) (b := nR) SP.bl (by have := SP.ne; omega) (.slice am nm pm) (.slice ac nc pc) (.int .u64 (bs : Int)) (.slice ap np pp) (.int .u32 (st : Int)) (.int .u32 (en : Int))
  clear SP hs3
  go_wp2
  obtain ⟨u0, u1, u2, u3, u4, u5⟩ := B6.cells HE'.out
  unfold S6 S4 at u0 u1 u2 u3 u4 u5
  refine bodyPost_ret (v := .tuple #[.agg #[.slice am nm pm, .slice ac nc pc, .int .u64 (bs : Int), .slice ap np pp, .int .u32 (st : Int), .int .u32 (en : Int)], .int .u32 0, .int .i64 22]) ?_ rfl ⟨(22, ms, cs, ps), 0, HMI.out, am, nm, pm, ac, nc, pc, ap, np, pp, rfl, HS'.out, HW'.out⟩
  rw [results_ctt rfl]; simp [go_sem, u0, u1, u2, u3, u4, u5]
 have p1 : decide (prot < 0) = false := decide_eq_false (by omega)
 by_cases hp7 : prot ≤ 7
 case neg =>
  have HMI : Hid (MmIs ms cs ps bs st en a n prot fixed (22, ms, cs, ps) 0) := .inl ⟨.inr (.inl (decide_eq_false (by omega))), rfl, rfl⟩
  have p2 : 7 < prot := by omega
  clear HM HKF HKS HPG HPN K20 hr hfi hlf hp7 h1
  go_enter Tryz.func12, Tryz.ntmps12
  have SP := SP0
  have hs3 := HSX.out
  clear SP0 HSX
  obtain ⟨m0, m1, m2, m3, m4, m5⟩ := SP.bG.cells
  obtain ⟨q0, q1, q2, q3, q4, q5⟩ := SP.bR.cells
  obtain ⟨f0, f1, f2, f3, f4, f5⟩ := SP.bR.frees
  have HE' : Hid _ := SP.bR.set6 (.slice am nm pm) (.slice ac nc pc) (.int .u64 (bs : Int)) (.slice ap np pp) (.int .u32 (st : Int)) (.int .u32 (en : Int))
  have HS' : Hid _ := slg_S6 hs3 SP.bR am ac ap nm pm nc pc np pp (bs : Int) (st : Int) (en : Int)
  have HW' : Hid _ := S6.below (B := w.heap.size) (b := nR) SP.bl (by have := SP.ne; omega) (.slice am nm pm) (.slice ac nc pc) (.int .u64 (bs : Int)) (.slice ap np pp) (.int .u32 (st : Int)) (.int .u32 (en : Int))
  clear SP hs3
  go_wp2
  obtain ⟨u0, u1, u2, u3, u4, u5⟩ := B6.cells HE'.out
  unfold S6 S4 at u0 u1 u2 u3 u4 u5
  refine bodyPost_ret (v := .tuple #[.agg #[.slice am nm pm, .slice ac nc pc, .int .u64 (bs : Int), .slice ap np pp, .int .u32 (st : Int), .int .u32 (en : Int)], .int .u32 0, .int .i64 22]) ?_ rfl ⟨(22, ms, cs, ps), 0, HMI.out, am, nm, pm, ac, nc, pc, ap, np, pp, rfl, HS'.out, HW'.out⟩
  rw [results_ctt rfl]; simp [go_sem, u0, u1, u2, u3, u4, u5]
 have p2 : decide (7 < prot) = false := decide_eq_false (by omega)
 have HPO : Hid (protOk prot = true) := decide_eq_true ⟨hp0, hp7⟩
 cases fixed with
 | true =>
  by_cases h2 : r = 0
  case neg =>
   have HMI : Hid (MmIs ms cs ps bs st en a n prot true (22, ms, cs, ps) 0) := .inl ⟨.inr (.inr ⟨rfl, by have := HPN.out.2.2; omega⟩), rfl, rfl⟩
   have r1 : ((r : Int) != 0) = true := by simp; omega
   have r2 : ((r : Int) = 0) = False := by simp; omega
   have r3 : (r = 0) = False := by simp [h2]
   clear HM HKF HKS HPG HPN HPO K20 hr hfi hlf h1 h2 hp0 hp7
   go_enter Tryz.func12, Tryz.ntmps12
   have SP := SP0
   have hs3 := HSX.out
   clear SP0 HSX
   obtain ⟨m0, m1, m2, m3, m4, m5⟩ := SP.bG.cells
   obtain ⟨q0, q1, q2, q3, q4, q5⟩ := SP.bR.cells
   obtain ⟨f0, f1, f2, f3, f4, f5⟩ := SP.bR.frees
   have HE' : Hid _ := SP.bR.set6 (.slice am nm pm) (.slice ac nc pc) (.int .u64 (bs : Int)) (.slice ap np pp) (.int .u32 (st : Int)) (.int .u32 (en : Int))
   have HS' : Hid _ := slg_S6 hs3 SP.bR am ac ap nm pm nc pc np pp (bs : Int) (st : Int) (en : Int)
   have HW' : Hid _ := S6.below (B := w.heap.size) (b := nR) SP.bl (by have := SP.ne; omega) (.slice am nm pm) (.slice ac nc pc) (.int .u64 (bs : Int)) (.slice ap np pp) (.int .u32 (st : Int)) (.int .u32 (en : Int))
   clear SP hs3
   go_wp2
   obtain ⟨u0, u1, u2, u3, u4, u5⟩ := B6.cells HE'.out
   unfold S6 S4 at u0 u1 u2 u3 u4 u5
   refine bodyPost_ret (v := .tuple #[.agg #[.slice am nm pm, .slice ac nc pc, .int .u64 (bs : Int), .slice ap np pp, .int .u32 (st : Int), .int .u32 (en : Int)], .int .u32 0, .int .i64 22]) ?_ rfl ⟨(22, ms, cs, ps), 0, HMI.out, am, nm, pm, ac, nc, pc, ap, np, pp, rfl, HS'.out, HW'.out⟩
   rw [results_ctt rfl]; simp [go_sem, u0, u1, u2, u3, u4, u5]
  have HNB : Hid (¬ MmBad a n prot true) := by
   rintro (h | h | ⟨_, h⟩)
   ·exact h1 h
   ·rw [HPO.out] at h; cases h
   ·have := HPN.out.2.2; omega
  subst h2
  by_cases h3 : 256 < pg
  ·have HMI : Hid (MmIs ms cs ps bs st en a n prot true (12, ms, cs, ps) 0) := .inr ⟨HNB.out, 0, 12, .inl ⟨.inl (by rw [← HPN.out.1]; exact h3), rfl, rfl⟩, .inl ⟨by decide, rfl, rfl⟩⟩
   have k1 : (256 : Int) < (pg : Int) := by omega
   clear HM HKF HKS HPG HPN HPO HNB hr hfi hlf h1 h3 hp0 hp7
   go_enter Tryz.func12, Tryz.ntmps12
   go_wp2_with fail
   refine (K20.out _).mono ?_
   rintro e w9 ⟨rfl, rfl⟩
   have SP := SP0
   have hs3 := HSX.out
   clear SP0 HSX
   obtain ⟨m0, m1, m2, m3, m4, m5⟩ := SP.bG.cells
   obtain ⟨q0, q1, q2, q3, q4, q5⟩ := SP.bR.cells
   obtain ⟨f0, f1, f2, f3, f4, f5⟩ := SP.bR.frees
   have HE' : Hid _ := SP.bR.set6 (.slice am nm pm) (.slice ac nc pc) (.int .u64 (bs : Int)) (.slice ap np pp) (.int .u32 (st : Int)) (.int .u32 (en : Int))
   have HS' : Hid _ := slg_S6 hs3 SP.bR am ac ap nm pm nc pc np pp (bs : Int) (st : Int) (en : Int)
   have HW' : Hid _ := S6.below (B := w.heap.size) (b := nR) SP.bl (by have := SP.ne; omega) (.slice am nm pm) (.slice ac nc pc) (.int .u64 (bs : Int)) (.slice ap np pp) (.int .u32 (st : Int)) (.int .u32 (en : Int))
   clear SP hs3
   go_wp2
   obtain ⟨u0, u1, u2, u3, u4, u5⟩ := B6.cells HE'.out
   unfold S6 S4 at u0 u1 u2 u3 u4 u5
   refine bodyPost_ret (v := .tuple #[.agg #[.slice am nm pm, .slice ac nc pc, .int .u64 (bs : Int), .slice ap np pp, .int .u32 (st : Int), .int .u32 (en : Int)], .int .u32 0, .int .i64 12]) ?_ rfl ⟨(12, ms, cs, ps), 0, HMI.out, am, nm, pm, ac, nc, pc, ap, np, pp, rfl, HS'.out, HW'.out⟩
   rw [results_ctt rfl]; simp [go_sem, u0, u1, u2, u3, u4, u5]
  have k1 : decide ((256 : Int) < (pg : Int)) = false := decide_eq_false (by omega)
  have k2 : (256 < pg) = False := eq_false h3
  by_cases h4 : lf < pg
  ·have HMI : Hid (MmIs ms cs ps bs st en a n prot true (12, ms, cs, ps) 0) := .inr ⟨HNB.out, 0, 12, .inl ⟨.inr ⟨rfl, by have := HPN.out; omega⟩, rfl, rfl⟩, .inl ⟨by decide, rfl, rfl⟩⟩
   have k3 : (lf : Int) < (pg : Int) := by omega
   clear HM HKF HKS HPG HPN HPO HNB hr hfi hlf h1 h3 h4 hp0 hp7
   go_enter Tryz.func12, Tryz.ntmps12
   go_wp2_with fail
   refine (K20.out _).mono ?_
   rintro e w9 ⟨rfl, rfl⟩
   have SP := SP0
   have hs3 := HSX.out
   clear SP0 HSX
   obtain ⟨m0, m1, m2, m3, m4, m5⟩ := SP.bG.cells
   obtain ⟨q0, q1, q2, q3, q4, q5⟩ := SP.bR.cells
   obtain ⟨f0, f1, f2, f3, f4, f5⟩ := SP.bR.frees
   have HE' : Hid _ := SP.bR.set6 (.slice am nm pm) (.slice ac nc pc) (.int .u64 (bs : Int)) (.slice ap np pp) (.int .u32 (st : Int)) (.int .u32 (en : Int))
   have HS' : Hid _ := slg_S6 hs3 SP.bR am ac ap nm pm nc pc np pp (bs : Int) (st : Int) (en : Int)
   have HW' : Hid _ := S6.below (B := w.heap.size) (b := nR) SP.bl (by have := SP.ne; omega) (.slice am nm pm) (.slice ac nc pc) (.int .u64 (bs : Int)) (.slice ap np pp) (.int .u32 (st : Int)) (.int .u32 (en : Int))
   clear SP hs3
   go_wp2
   obtain ⟨u0, u1, u2, u3, u4, u5⟩ := B6.cells HE'.out
   unfold S6 S4 at u0 u1 u2 u3 u4 u5
   refine bodyPost_ret (v := .tuple #[.agg #[.slice am nm pm, .slice ac nc pc, .int .u64 (bs : Int), .slice ap np pp, .int .u32 (st : Int), .int .u32 (en : Int)], .int .u32 0, .int .i64 12]) ?_ rfl ⟨(12, ms, cs, ps), 0, HMI.out, am, nm, pm, ac, nc, pc, ap, np, pp, rfl, HS'.out, HW'.out⟩
   rw [results_ctt rfl]; simp [go_sem, u0, u1, u2, u3, u4, u5]
  have k3 : decide ((lf : Int) < (pg : Int)) = false := decide_eq_false (by omega)
  have k4 : (lf < pg) = False := eq_false h4
  have HFP : Hid (FpIs ps st en a (pgN n) true fi 0) := .inr (.inl ⟨by have := HPN.out; omega, .inl ⟨rfl, by have := HPN.out; omega⟩, HPN.out.2.1, rfl⟩)
  have hat : fi * 4096 = a := by have := HPN.out; omega
  have HM0 := fun w' hb' => HM.out fi (by omega) w' hb'
  obtain ⟨R, hR⟩ : ∃ RR, RR = mapR ms cs ps bs fi pg prot := ⟨_, rfl⟩
  have HNO : Hid (R.1 ≠ 0 → R.2.1 = ms ∧ R.2.2.1 = cs ∧ R.2.2.2 = ps) := fun h => by
   rw [hR] at h ⊢
   rw [mapR_no h]; exact ⟨rfl, rfl, rfl⟩
  have KM : Hid (∀ w', Below X.heap.size X w' → Calls Tryz.prog 32 #[.agg #[.slice am nm pm, .slice ac nc pc, .int .u64 (bs : Int), .slice ap np pp], .int .u32 ((fi : Nat) : Int), .int .u32 (pg : Int), .int .i64 prot] w' (GTold R bs w')) := fun w' hb' => by have h := HM0 w' hb'; rw [← hR] at h; exact h
  have HRM : Hid (R = mapR ms cs ps bs fi pg prot) := hR
  obtain ⟨rc, rms, rcs, rps⟩ := R
  have HNO : Hid (rc ≠ 0 → rms = ms ∧ rcs = cs ∧ rps = ps) := HNO.out
  clear HM0 hR
  rw [HPN.out.1] at HRM
  clear HM HKF HKS HPG HPN HPO hr hfi hlf h1 h3 h4 hp0 hp7
  go_enter Tryz.func12, Tryz.ntmps12
  go_wp2_with fail
  refine (K20.out _).mono ?_
  rintro e w9 ⟨rfl, rfl⟩
  have SPc := SP0
  have bX := Below.refl w9.heap.size w9
  clear SP0
  go_wp2_with fail
  refine (KM.out _ bX).mono ?_
  rintro e w3 ⟨x1, x2, x3, x4, x5, x6, x7, x8, x9, rfl, hsg, hb3⟩
  obtain ⟨Wb, W1, nL, hWb, hnL, BL0, hW1, BL, SP1, bB, lt4⟩ := (SPc.keep hb3).lay (.slice x1 x2 x3) (.slice x4 x5 x6) (.int .u64 (bs : Int)) (.slice x7 x8 x9)
  unfold S4 at hW1
  obtain ⟨k0, k1, k2, k3⟩ := BL0.cells
  obtain ⟨l0, l1, l2, l3⟩ := BL0.frees
  obtain ⟨d0, d1, d2, d3⟩ := BL.cells
  have HSS : Hid (SlG W1 (.slice am nm pm) (.slice ac nc pc) (.slice ap np pp) ms cs ps) := HSX.out.keep (below_tr bX (below_tr hb3 bB))
  by_cases hrc0 : rc = 0
  ·subst hrc0
   have HMI : Hid (MmIs ms cs ps bs st en a n prot true (0, rms, rcs, rps) (a)) := .inr ⟨HNB.out, fi, 0, HFP.out, .inr ⟨rfl, HRM.out, by show _ = fi * 4096; first | exact HZA.out | omega⟩⟩
   have hs1 := hsg.keep bB
   clear SPc HSX HSS HFP HNB HRM KM bX hb3 hsg bB BL BL0 lt4 HNO
   have SP2 := SP1.setG (.slice x1 x2 x3) (.slice x4 x5 x6) (.int .u64 (bs : Int)) (.slice x7 x8 x9)
   have hs2 := slg_S4 hs1 SP1.bG x1 x4 x7 x2 x3 x5 x6 x8 x9 (bs : Int)
   obtain ⟨c0, c1, c2, c3, c4, c5⟩ := SP1.bG.cells
   obtain ⟨y0, y1, y2, y3, y4, y5⟩ := SP1.bG.frees
   obtain ⟨W2, hW2⟩ : ∃ y, S4 W1 nG (.slice x1 x2 x3) (.slice x4 x5 x6) (.int .u64 (bs : Int)) (.slice x7 x8 x9) = y := ⟨_, rfl⟩
   rw [hW2] at SP2 hs2
   unfold S4 at hW2
   have SP := SP2
   have hs3 := hs2
   clear SP1 SP2 hs1 hs2
   obtain ⟨m0, m1, m2, m3, m4, m5⟩ := SP.bG.cells
   obtain ⟨q0, q1, q2, q3, q4, q5⟩ := SP.bR.cells
   obtain ⟨f0, f1, f2, f3, f4, f5⟩ := SP.bR.frees
   have HE' : Hid _ := SP.bR.set6 (.slice x1 x2 x3) (.slice x4 x5 x6) (.int .u64 (bs : Int)) (.slice x7 x8 x9) (.int .u32 (st : Int)) (.int .u32 (en : Int))
   have HS' : Hid _ := slg_S6 hs3 SP.bR x1 x4 x7 x2 x3 x5 x6 x8 x9 (bs : Int) (st : Int) (en : Int)
   have HW' : Hid _ := S6.below (B := w.heap.size) (b := nR) SP.bl (by have := SP.ne; omega) (.slice x1 x2 x3) (.slice x4 x5 x6) (.int .u64 (bs : Int)) (.slice x7 x8 x9) (.int .u32 (st : Int)) (.int .u32 (en : Int))
   clear SP hs3
   go_wp2
   obtain ⟨u0, u1, u2, u3, u4, u5⟩ := B6.cells HE'.out
   unfold S6 S4 at u0 u1 u2 u3 u4 u5
   refine bodyPost_ret (v := .tuple #[.agg #[.slice x1 x2 x3, .slice x4 x5 x6, .int .u64 (bs : Int), .slice x7 x8 x9, .int .u32 (st : Int), .int .u32 (en : Int)], .int .u32 ((a : Nat) : Int), .int .i64 0]) ?_ rfl ⟨(0, rms, rcs, rps), a, HMI.out, x1, x2, x3, x4, x5, x6, x7, x8, x9, rfl, HS'.out, HW'.out⟩
   rw [results_ctt rfl]; simp [go_sem, u0, u1, u2, u3, u4, u5]
  ·have r1 : (rc == 0) = false := by rw [beq_eq_false_iff_ne]; exact hrc0
   have r2 : (rc != 0) = true := by simp [hrc0]
   obtain ⟨rfl, rfl, rfl⟩ := HNO.out hrc0
   have HMI : Hid (MmIs rms rcs rps bs st en a n prot true (rc, rms, rcs, rps) 0) := .inr ⟨HNB.out, fi, 0, HFP.out, .inr ⟨rfl, HRM.out, by rw [if_neg hrc0]⟩⟩
   have SP := SP1
   have hs3 := HSS.out
   obtain ⟨c0, c1, c2, c3, c4, c5⟩ := SP1.bG.cells
   clear SPc SP1 HSX HSS HFP HNB HRM KM bX hb3 hsg bB BL BL0 lt4 hrc0 HNO
   obtain ⟨m0, m1, m2, m3, m4, m5⟩ := SP.bG.cells
   obtain ⟨q0, q1, q2, q3, q4, q5⟩ := SP.bR.cells
   obtain ⟨f0, f1, f2, f3, f4, f5⟩ := SP.bR.frees
   have HE' : Hid _ := SP.bR.set6 (.slice am nm pm) (.slice ac nc pc) (.int .u64 (bs : Int)) (.slice ap np pp) (.int .u32 (st : Int)) (.int .u32 (en : Int))
   have HS' : Hid _ := slg_S6 hs3 SP.bR am ac ap nm pm nc pc np pp (bs : Int) (st : Int) (en : Int)
   have HW' : Hid _ := S6.below (B := w.heap.size) (b := nR) SP.bl (by have := SP.ne; omega) (.slice am nm pm) (.slice ac nc pc) (.int .u64 (bs : Int)) (.slice ap np pp) (.int .u32 (st : Int)) (.int .u32 (en : Int))
   clear SP hs3
   go_wp2
   obtain ⟨u0, u1, u2, u3, u4, u5⟩ := B6.cells HE'.out
   unfold S6 S4 at u0 u1 u2 u3 u4 u5
   refine bodyPost_ret (v := .tuple #[.agg #[.slice am nm pm, .slice ac nc pc, .int .u64 (bs : Int), .slice ap np pp, .int .u32 (st : Int), .int .u32 (en : Int)], .int .u32 0, .int .i64 rc]) ?_ rfl ⟨(rc, rms, rcs, rps), 0, HMI.out, am, nm, pm, ac, nc, pc, ap, np, pp, rfl, HS'.out, HW'.out⟩
   rw [results_ctt rfl]; simp [go_sem, u0, u1, u2, u3, u4, u5]
 | false =>
  have HNB : Hid (¬ MmBad a n prot false) := by
   rintro (h | h | ⟨h, _⟩)
   ·exact h1 h
   ·rw [HPO.out] at h; cases h
   ·cases h
  by_cases h3 : 256 < pg
  ·have HMI : Hid (MmIs ms cs ps bs st en a n prot false (12, ms, cs, ps) 0) := .inr ⟨HNB.out, 0, 12, .inl ⟨.inl (by rw [← HPN.out.1]; exact h3), rfl, rfl⟩, .inl ⟨by decide, rfl, rfl⟩⟩
   have k1 : (256 : Int) < (pg : Int) := by omega
   clear HM HKF HKS HPG HPN HPO HNB hr hfi hlf h1 h3 hp0 hp7
   go_enter Tryz.func12, Tryz.ntmps12
   go_wp2_with fail
   refine (K20.out _).mono ?_
   rintro e w9 ⟨rfl, rfl⟩
   have SP := SP0
   have hs3 := HSX.out
   clear SP0 HSX
   obtain ⟨m0, m1, m2, m3, m4, m5⟩ := SP.bG.cells
   obtain ⟨q0, q1, q2, q3, q4, q5⟩ := SP.bR.cells
   obtain ⟨f0, f1, f2, f3, f4, f5⟩ := SP.bR.frees
   have HE' : Hid _ := SP.bR.set6 (.slice am nm pm) (.slice ac nc pc) (.int .u64 (bs : Int)) (.slice ap np pp) (.int .u32 (st : Int)) (.int .u32 (en : Int))
   have HS' : Hid _ := slg_S6 hs3 SP.bR am ac ap nm pm nc pc np pp (bs : Int) (st : Int) (en : Int)
   have HW' : Hid _ := S6.below (B := w.heap.size) (b := nR) SP.bl (by have := SP.ne; omega) (.slice am nm pm) (.slice ac nc pc) (.int .u64 (bs : Int)) (.slice ap np pp) (.int .u32 (st : Int)) (.int .u32 (en : Int))
   clear SP hs3
   go_wp2
   obtain ⟨u0, u1, u2, u3, u4, u5⟩ := B6.cells HE'.out
   unfold S6 S4 at u0 u1 u2 u3 u4 u5
   refine bodyPost_ret (v := .tuple #[.agg #[.slice am nm pm, .slice ac nc pc, .int .u64 (bs : Int), .slice ap np pp, .int .u32 (st : Int), .int .u32 (en : Int)], .int .u32 0, .int .i64 12]) ?_ rfl ⟨(12, ms, cs, ps), 0, HMI.out, am, nm, pm, ac, nc, pc, ap, np, pp, rfl, HS'.out, HW'.out⟩
   rw [results_ctt rfl]; simp [go_sem, u0, u1, u2, u3, u4, u5]
  have k1 : decide ((256 : Int) < (pg : Int)) = false := decide_eq_false (by omega)
  have k2 : (256 < pg) = False := eq_false h3
  have HK : Hid (pg ≤ 256) := by show _ ≤ _; omega
  have KF := HKF.out HPG.out HK.out
  have KF : Hid (∀ w', Below X.heap.size X w' → Calls Tryz.prog 31 #[.agg #[.slice am nm pm, .slice ac nc pc, .int .u64 (bs : Int), .slice ap np pp, .int .u32 (st : Int), .int .u32 (en : Int)], .int .u32 (pg : Int)] w' fun e w'' => ∃ z : Nat, IsRoom ps st en pg z ∧ e = .returned (.int .u32 ((z * 4096 : Nat) : Int)) ∧ Below w'.heap.size w' w'') := KF
  clear HKF h3 hlf w3' w4'
  obtain ⟨lg, hlg⟩ : ∃ z, z = 458752 - fi := ⟨_, rfl⟩
  have hroute : (¬ (r = 0 ∧ a ≠ 0 ∧ a < 1879048192 ∧ pg ≤ lg)) ∨ (r = 0 ∧ a ≠ 0 ∧ a < 1879048192 ∧ pg ≤ lg) := by omega
  rcases hroute with h2 | ⟨h2, h4, h5, h6⟩
  ·have HNC : Hid (¬ (a ≠ 0 ∧ a % 4096 = 0 ∧ a / 4096 + pg ≤ 458752 ∧ someB ps (a / 4096) pg = false)) := fun h => h2 ⟨by have := HPN.out.2.2; omega, h.1, by have := HPG.out; have := h.2.2.1; omega, by have := h.2.2.1; omega⟩
   have h7 : (((r : Int) != 0) = true ∧ ((r : Int) = 0) = False ∧ (r = 0) = False) ∨ (r = 0 ∧ ((a : Int) == 0) = true) ∨ (r = 0 ∧ (((a : Int) == 0) = false ∧ (a = 0) = False ∧ ((a : Int) = 0) = False) ∧ (1879048192 : Int) ≤ (a : Int)) ∨ (r = 0 ∧ (((a : Int) == 0) = false ∧ (a = 0) = False ∧ ((a : Int) = 0) = False) ∧ (decide ((1879048192 : Int) ≤ (a : Int)) = false ∧ (1879048192 ≤ a) = False) ∧ (IntKind.u32.wrap (458752 - (fi : Int)) = (lg : Int) ∧ 458752 - (fi : Int) = (lg : Int)) ∧ (lg : Int) < (pg : Int)) := by
    by_cases g1 : r = 0
    ·by_cases g2 : a = 0
     ·exact .inr (.inl ⟨g1, by rw [beq_iff_eq]; omega⟩)
     ·have g3 : ((a : Int) == 0) = false ∧ (a = 0) = False ∧ ((a : Int) = 0) = False := ⟨by rw [beq_eq_false_iff_ne]; omega, eq_false g2, eq_false (by omega)⟩
      by_cases g4 : 1879048192 ≤ a
      ·exact .inr (.inr (.inl ⟨g1, g3, by omega⟩))
      ·exact .inr (.inr (.inr ⟨g1, g3, ⟨decide_eq_false (by omega), eq_false g4⟩, ⟨by rw [IntKind.wrap_u32]; omega, by omega⟩, by omega⟩))
    ·exact .inl ⟨by simp; omega, eq_false (by omega), eq_false g1⟩
   clear HKS HPO hr hfi h1 h2 hp0 hp7 hlg
   rcases h7 with ⟨f1, f2, f3⟩ | ⟨rfl, f1⟩ | ⟨rfl, ⟨f1, f2, f3⟩, f4⟩ | ⟨rfl, ⟨f1, f2, f3⟩, ⟨f4, f5⟩, ⟨f6, f7⟩, f8⟩
   all_goals
    go_enter Tryz.func12, Tryz.ntmps12
    go_wp2_with fail
    refine (K20.out _).mono ?_
    rintro e w9 ⟨rfl, rfl⟩
    go_wp2_with fail
    refine (KF.out _ (Below.refl _ _)).mono ?_
    rintro e w4 ⟨z, hz, rfl, hb4⟩
    have bX := hb4
    have SPc := SP0.keep hb4
    clear hb4
    obtain ⟨t0, t1, t2, t3, t4, t5⟩ := SPc.bG.cells
    have hzl : z ≤ 458752 := by
     rcases hz with ⟨h, _⟩ | ⟨h, _⟩
     ·omega
     ·have := h.2.1; omega
    have HZ : Hid (FpIs ps st en a pg false z (if z = 0 then 12 else 0)) := by
     obtain ⟨ts, p1, p2, p3, p4⟩ := room_fr HPG.out hz
     refine .inr (.inr ⟨HK.out, rfl, HNC.out, ts, p1, p2, p3, ?_⟩)
     by_cases e : z = 0
     ·rw [if_pos e, if_neg (fun h => (p4.1 h) e)]
     ·rw [if_neg e, if_pos (p4.2 e)]
    rw [HPN.out.1] at HZ
    clear hz KF HPG HK HNC
    by_cases h0 : z = 0
    ·subst h0
     have HMI : Hid (MmIs ms cs ps bs st en a n prot false (12, ms, cs, ps) 0) := .inr ⟨HNB.out, 0, 12, HZ.out, .inl ⟨by decide, rfl, rfl⟩⟩
     have SP := SPc
     have hs3 := HSX.out.keep bX
     clear SPc HSX HZ HNB HM bX SP0 HPN
     obtain ⟨m0, m1, m2, m3, m4, m5⟩ := SP.bG.cells
     obtain ⟨q0, q1, q2, q3, q4, q5⟩ := SP.bR.cells
     obtain ⟨f0, f1, f2, f3, f4, f5⟩ := SP.bR.frees
     have HE' : Hid _ := SP.bR.set6 (.slice am nm pm) (.slice ac nc pc) (.int .u64 (bs : Int)) (.slice ap np pp) (.int .u32 (st : Int)) (.int .u32 (en : Int))
     have HS' : Hid _ := slg_S6 hs3 SP.bR am ac ap nm pm nc pc np pp (bs : Int) (st : Int) (en : Int)
     have HW' : Hid _ := S6.below (B := w.heap.size) (b := nR) SP.bl (by have := SP.ne; omega) (.slice am nm pm) (.slice ac nc pc) (.int .u64 (bs : Int)) (.slice ap np pp) (.int .u32 (st : Int)) (.int .u32 (en : Int))
     clear SP hs3
     go_wp2
     obtain ⟨u0, u1, u2, u3, u4, u5⟩ := B6.cells HE'.out
     unfold S6 S4 at u0 u1 u2 u3 u4 u5
     refine bodyPost_ret (v := .tuple #[.agg #[.slice am nm pm, .slice ac nc pc, .int .u64 (bs : Int), .slice ap np pp, .int .u32 (st : Int), .int .u32 (en : Int)], .int .u32 0, .int .i64 12]) ?_ rfl ⟨(12, ms, cs, ps), 0, HMI.out, am, nm, pm, ac, nc, pc, ap, np, pp, rfl, HS'.out, HW'.out⟩
     rw [results_ctt rfl]; simp [go_sem, u0, u1, u2, u3, u4, u5]
    ·have HFP : Hid (FpIs ps st en a (pgN n) false z 0) := by have h := HZ.out; rw [if_neg h0] at h; exact h
     have z1 : ((z * 4096 : Nat) : Int) / 4096 = (z : Int) := by omega
     have z2 : ((z * 4096 : Nat) : Int).tdiv 4096 = (z : Int) := by rw [Int.tdiv_eq_ediv_of_nonneg (by omega)]; omega
     have z3 : (((z * 4096 : Nat) : Int) == 0) = false := by rw [beq_eq_false_iff_ne]; omega
     have z4 : IntKind.u32.wrap (z : Int) = (z : Int) := by rw [IntKind.wrap_u32]; omega
     obtain ⟨ZA, hZA⟩ : ∃ y, y = z * 4096 := ⟨_, rfl⟩
     rw [← hZA] at z1 z2 z3 ⊢
     have hZl : ZA < 4294967296 := by omega
     have z5 : (z : Int) * 4096 = (ZA : Int) := by omega
     have HZA : Hid (ZA = z * 4096) := hZA
     clear hZA
     have HM0 := fun w' hb' => HM.out z (by omega) w' hb'
     obtain ⟨R, hR⟩ : ∃ RR, RR = mapR ms cs ps bs z pg prot := ⟨_, rfl⟩
     have HNO : Hid (R.1 ≠ 0 → R.2.1 = ms ∧ R.2.2.1 = cs ∧ R.2.2.2 = ps) := fun h => by
      rw [hR] at h ⊢
      rw [mapR_no h]; exact ⟨rfl, rfl, rfl⟩
     have KM : Hid (∀ w', Below w9.heap.size w9 w' → Calls Tryz.prog 32 #[.agg #[.slice am nm pm, .slice ac nc pc, .int .u64 (bs : Int), .slice ap np pp], .int .u32 ((z : Nat) : Int), .int .u32 (pg : Int), .int .i64 prot] w' (GTold R bs w')) := fun w' hb' => by have h := HM0 w' hb'; rw [← hR] at h; exact h
     have HRM : Hid (R = mapR ms cs ps bs z pg prot) := hR
     obtain ⟨rc, rms, rcs, rps⟩ := R
     have HNO : Hid (rc ≠ 0 → rms = ms ∧ rcs = cs ∧ rps = ps) := HNO.out
     clear HM0 hR
     rw [HPN.out.1] at HRM
     clear HM HZ SP0 HPN
     go_wp2_with fail
     refine (KM.out _ bX).mono ?_
     rintro e w3 ⟨x1, x2, x3, x4, x5, x6, x7, x8, x9, rfl, hsg, hb3⟩
     obtain ⟨Wb, W1, nL, hWb, hnL, BL0, hW1, BL, SP1, bB, lt4⟩ := (SPc.keep hb3).lay (.slice x1 x2 x3) (.slice x4 x5 x6) (.int .u64 (bs : Int)) (.slice x7 x8 x9)
     unfold S4 at hW1
     obtain ⟨k0, k1, k2, k3⟩ := BL0.cells
     obtain ⟨l0, l1, l2, l3⟩ := BL0.frees
     obtain ⟨d0, d1, d2, d3⟩ := BL.cells
     have HSS : Hid (SlG W1 (.slice am nm pm) (.slice ac nc pc) (.slice ap np pp) ms cs ps) := HSX.out.keep (below_tr bX (below_tr hb3 bB))
     by_cases hrc0 : rc = 0
     ·subst hrc0
      have HMI : Hid (MmIs ms cs ps bs st en a n prot false (0, rms, rcs, rps) (ZA)) := .inr ⟨HNB.out, z, 0, HFP.out, .inr ⟨rfl, HRM.out, by show _ = z * 4096; first | exact HZA.out | omega⟩⟩
      have hs1 := hsg.keep bB
      clear SPc HSX HSS HFP HNB HRM KM bX hb3 hsg bB BL BL0 lt4 HNO
      have SP2 := SP1.setG (.slice x1 x2 x3) (.slice x4 x5 x6) (.int .u64 (bs : Int)) (.slice x7 x8 x9)
      have hs2 := slg_S4 hs1 SP1.bG x1 x4 x7 x2 x3 x5 x6 x8 x9 (bs : Int)
      obtain ⟨c0, c1, c2, c3, c4, c5⟩ := SP1.bG.cells
      obtain ⟨y0, y1, y2, y3, y4, y5⟩ := SP1.bG.frees
      obtain ⟨W2, hW2⟩ : ∃ y, S4 W1 nG (.slice x1 x2 x3) (.slice x4 x5 x6) (.int .u64 (bs : Int)) (.slice x7 x8 x9) = y := ⟨_, rfl⟩
      rw [hW2] at SP2 hs2
      unfold S4 at hW2
      have SP := SP2
      have hs3 := hs2
      clear SP1 SP2 hs1 hs2
      obtain ⟨m0, m1, m2, m3, m4, m5⟩ := SP.bG.cells
      obtain ⟨q0, q1, q2, q3, q4, q5⟩ := SP.bR.cells
      obtain ⟨f0, f1, f2, f3, f4, f5⟩ := SP.bR.frees
      have HE' : Hid _ := SP.bR.set6 (.slice x1 x2 x3) (.slice x4 x5 x6) (.int .u64 (bs : Int)) (.slice x7 x8 x9) (.int .u32 (st : Int)) (.int .u32 (en : Int))
      have HS' : Hid _ := slg_S6 hs3 SP.bR x1 x4 x7 x2 x3 x5 x6 x8 x9 (bs : Int) (st : Int) (en : Int)
      have HW' : Hid _ := S6.below (B := w.heap.size) (b := nR) SP.bl (by have := SP.ne; omega) (.slice x1 x2 x3) (.slice x4 x5 x6) (.int .u64 (bs : Int)) (.slice x7 x8 x9) (.int .u32 (st : Int)) (.int .u32 (en : Int))
      clear SP hs3
      go_wp2
      obtain ⟨u0, u1, u2, u3, u4, u5⟩ := B6.cells HE'.out
      unfold S6 S4 at u0 u1 u2 u3 u4 u5
      refine bodyPost_ret (v := .tuple #[.agg #[.slice x1 x2 x3, .slice x4 x5 x6, .int .u64 (bs : Int), .slice x7 x8 x9, .int .u32 (st : Int), .int .u32 (en : Int)], .int .u32 ((ZA : Nat) : Int), .int .i64 0]) ?_ rfl ⟨(0, rms, rcs, rps), ZA, HMI.out, x1, x2, x3, x4, x5, x6, x7, x8, x9, rfl, HS'.out, HW'.out⟩
      rw [results_ctt rfl]; simp [go_sem, u0, u1, u2, u3, u4, u5]
     ·have r1 : (rc == 0) = false := by rw [beq_eq_false_iff_ne]; exact hrc0
      have r2 : (rc != 0) = true := by simp [hrc0]
      obtain ⟨rfl, rfl, rfl⟩ := HNO.out hrc0
      have HMI : Hid (MmIs rms rcs rps bs st en a n prot false (rc, rms, rcs, rps) 0) := .inr ⟨HNB.out, z, 0, HFP.out, .inr ⟨rfl, HRM.out, by rw [if_neg hrc0]⟩⟩
      have SP := SP1
      have hs3 := HSS.out
      obtain ⟨c0, c1, c2, c3, c4, c5⟩ := SP1.bG.cells
      clear SPc SP1 HSX HSS HFP HNB HRM KM bX hb3 hsg bB BL BL0 lt4 hrc0 HNO
      obtain ⟨m0, m1, m2, m3, m4, m5⟩ := SP.bG.cells
      obtain ⟨q0, q1, q2, q3, q4, q5⟩ := SP.bR.cells
      obtain ⟨f0, f1, f2, f3, f4, f5⟩ := SP.bR.frees
      have HE' : Hid _ := SP.bR.set6 (.slice am nm pm) (.slice ac nc pc) (.int .u64 (bs : Int)) (.slice ap np pp) (.int .u32 (st : Int)) (.int .u32 (en : Int))
      have HS' : Hid _ := slg_S6 hs3 SP.bR am ac ap nm pm nc pc np pp (bs : Int) (st : Int) (en : Int)
      have HW' : Hid _ := S6.below (B := w.heap.size) (b := nR) SP.bl (by have := SP.ne; omega) (.slice am nm pm) (.slice ac nc pc) (.int .u64 (bs : Int)) (.slice ap np pp) (.int .u32 (st : Int)) (.int .u32 (en : Int))
      clear SP hs3
      go_wp2
      obtain ⟨u0, u1, u2, u3, u4, u5⟩ := B6.cells HE'.out
      unfold S6 S4 at u0 u1 u2 u3 u4 u5
      refine bodyPost_ret (v := .tuple #[.agg #[.slice am nm pm, .slice ac nc pc, .int .u64 (bs : Int), .slice ap np pp, .int .u32 (st : Int), .int .u32 (en : Int)], .int .u32 0, .int .i64 rc]) ?_ rfl ⟨(rc, rms, rcs, rps), 0, HMI.out, am, nm, pm, ac, nc, pc, ap, np, pp, rfl, HS'.out, HW'.out⟩
      rw [results_ctt rfl]; simp [go_sem, u0, u1, u2, u3, u4, u5]
  subst h2
  have a1 : ((a : Int) == 0) = false := by rw [beq_eq_false_iff_ne]; omega
  have a2 : (a = 0) = False := eq_false h4
  have a3 : ((a : Int) = 0) = False := by simp [h4]
  have b1 : decide ((1879048192 : Int) ≤ (a : Int)) = false := decide_eq_false (by omega)
  have b2 : (1879048192 ≤ a) = False := eq_false (by omega)
  have w3' : IntKind.u32.wrap (458752 - (fi : Int)) = (lg : Int) := by rw [IntKind.wrap_u32]; omega
  have w4' : 458752 - (fi : Int) = (lg : Int) := by omega
  have c1 : decide ((lg : Int) < (pg : Int)) = false := decide_eq_false (by omega)
  have c2 : (lg < pg) = False := eq_false (by omega)
  have KS := HKS.out
  cases hsb : someB ps fi pg with
  | true =>
   have HNC : Hid (¬ (a ≠ 0 ∧ a % 4096 = 0 ∧ a / 4096 + pg ≤ 458752 ∧ someB ps (a / 4096) pg = false)) := fun h => by have h := h.2.2.2; rw [← HPN.out.2.1, hsb] at h; cases h
   rw [hsb] at KS
   clear HKS HPO hr hfi h1 h4 h5 h6 hlg hp0 hp7 hsb
   go_enter Tryz.func12, Tryz.ntmps12
   go_wp2_with fail
   refine (K20.out _).mono ?_
   rintro e w9 ⟨rfl, rfl⟩
   go_wp2_with fail
   refine KS.mono ?_
   rintro e w2 ⟨rfl, hb2⟩
   have SPa := SP0.keep hb2
   obtain ⟨c0, c1, c2, c3, c4, c5⟩ := SPa.bG.cells
   clear KS
   go_wp2_with fail
   refine (KF.out _ hb2).mono ?_
   rintro e w4 ⟨z, hz, rfl, hb4⟩
   have bX := below_tr hb2 hb4
   have SPc := SPa.keep hb4
   clear SPa hb2 hb4
   obtain ⟨t0, t1, t2, t3, t4, t5⟩ := SPc.bG.cells
   have hzl : z ≤ 458752 := by
    rcases hz with ⟨h, _⟩ | ⟨h, _⟩
    ·omega
    ·have := h.2.1; omega
   have HZ : Hid (FpIs ps st en a pg false z (if z = 0 then 12 else 0)) := by
    obtain ⟨ts, p1, p2, p3, p4⟩ := room_fr HPG.out hz
    refine .inr (.inr ⟨HK.out, rfl, HNC.out, ts, p1, p2, p3, ?_⟩)
    by_cases e : z = 0
    ·rw [if_pos e, if_neg (fun h => (p4.1 h) e)]
    ·rw [if_neg e, if_pos (p4.2 e)]
   rw [HPN.out.1] at HZ
   clear hz KF HPG HK HNC
   by_cases h0 : z = 0
   ·subst h0
    have HMI : Hid (MmIs ms cs ps bs st en a n prot false (12, ms, cs, ps) 0) := .inr ⟨HNB.out, 0, 12, HZ.out, .inl ⟨by decide, rfl, rfl⟩⟩
    have SP := SPc
    have hs3 := HSX.out.keep bX
    clear SPc HSX HZ HNB HM bX SP0 HPN
    obtain ⟨m0, m1, m2, m3, m4, m5⟩ := SP.bG.cells
    obtain ⟨q0, q1, q2, q3, q4, q5⟩ := SP.bR.cells
    obtain ⟨f0, f1, f2, f3, f4, f5⟩ := SP.bR.frees
    have HE' : Hid _ := SP.bR.set6 (.slice am nm pm) (.slice ac nc pc) (.int .u64 (bs : Int)) (.slice ap np pp) (.int .u32 (st : Int)) (.int .u32 (en : Int))
    have HS' : Hid _ := slg_S6 hs3 SP.bR am ac ap nm pm nc pc np pp (bs : Int) (st : Int) (en : Int)
    have HW' : Hid _ := S6.below (B := w.heap.size) (b := nR) SP.bl (by have := SP.ne; omega) (.slice am nm pm) (.slice ac nc pc) (.int .u64 (bs : Int)) (.slice ap np pp) (.int .u32 (st : Int)) (.int .u32 (en : Int))
    clear SP hs3
    go_wp2
    obtain ⟨u0, u1, u2, u3, u4, u5⟩ := B6.cells HE'.out
    unfold S6 S4 at u0 u1 u2 u3 u4 u5
    refine bodyPost_ret (v := .tuple #[.agg #[.slice am nm pm, .slice ac nc pc, .int .u64 (bs : Int), .slice ap np pp, .int .u32 (st : Int), .int .u32 (en : Int)], .int .u32 0, .int .i64 12]) ?_ rfl ⟨(12, ms, cs, ps), 0, HMI.out, am, nm, pm, ac, nc, pc, ap, np, pp, rfl, HS'.out, HW'.out⟩
    rw [results_ctt rfl]; simp [go_sem, u0, u1, u2, u3, u4, u5]
   ·have HFP : Hid (FpIs ps st en a (pgN n) false z 0) := by have h := HZ.out; rw [if_neg h0] at h; exact h
    have z1 : ((z * 4096 : Nat) : Int) / 4096 = (z : Int) := by omega
    have z2 : ((z * 4096 : Nat) : Int).tdiv 4096 = (z : Int) := by rw [Int.tdiv_eq_ediv_of_nonneg (by omega)]; omega
    have z3 : (((z * 4096 : Nat) : Int) == 0) = false := by rw [beq_eq_false_iff_ne]; omega
    have z4 : IntKind.u32.wrap (z : Int) = (z : Int) := by rw [IntKind.wrap_u32]; omega
    obtain ⟨ZA, hZA⟩ : ∃ y, y = z * 4096 := ⟨_, rfl⟩
    rw [← hZA] at z1 z2 z3 ⊢
    have hZl : ZA < 4294967296 := by omega
    have z5 : (z : Int) * 4096 = (ZA : Int) := by omega
    have HZA : Hid (ZA = z * 4096) := hZA
    clear hZA
    have HM0 := fun w' hb' => HM.out z (by omega) w' hb'
    obtain ⟨R, hR⟩ : ∃ RR, RR = mapR ms cs ps bs z pg prot := ⟨_, rfl⟩
    have HNO : Hid (R.1 ≠ 0 → R.2.1 = ms ∧ R.2.2.1 = cs ∧ R.2.2.2 = ps) := fun h => by
     rw [hR] at h ⊢
     rw [mapR_no h]; exact ⟨rfl, rfl, rfl⟩
    have KM : Hid (∀ w', Below w9.heap.size w9 w' → Calls Tryz.prog 32 #[.agg #[.slice am nm pm, .slice ac nc pc, .int .u64 (bs : Int), .slice ap np pp], .int .u32 ((z : Nat) : Int), .int .u32 (pg : Int), .int .i64 prot] w' (GTold R bs w')) := fun w' hb' => by have h := HM0 w' hb'; rw [← hR] at h; exact h
    have HRM : Hid (R = mapR ms cs ps bs z pg prot) := hR
    obtain ⟨rc, rms, rcs, rps⟩ := R
    have HNO : Hid (rc ≠ 0 → rms = ms ∧ rcs = cs ∧ rps = ps) := HNO.out
    clear HM0 hR
    rw [HPN.out.1] at HRM
    clear HM HZ SP0 HPN
    go_wp2_with fail
    refine (KM.out _ bX).mono ?_
    rintro e w3 ⟨x1, x2, x3, x4, x5, x6, x7, x8, x9, rfl, hsg, hb3⟩
    obtain ⟨Wb, W1, nL, hWb, hnL, BL0, hW1, BL, SP1, bB, lt4⟩ := (SPc.keep hb3).lay (.slice x1 x2 x3) (.slice x4 x5 x6) (.int .u64 (bs : Int)) (.slice x7 x8 x9)
    unfold S4 at hW1
    obtain ⟨k0, k1, k2, k3⟩ := BL0.cells
    obtain ⟨l0, l1, l2, l3⟩ := BL0.frees
    obtain ⟨d0, d1, d2, d3⟩ := BL.cells
    have HSS : Hid (SlG W1 (.slice am nm pm) (.slice ac nc pc) (.slice ap np pp) ms cs ps) := HSX.out.keep (below_tr bX (below_tr hb3 bB))
    by_cases hrc0 : rc = 0
    ·subst hrc0
     have HMI : Hid (MmIs ms cs ps bs st en a n prot false (0, rms, rcs, rps) (ZA)) := .inr ⟨HNB.out, z, 0, HFP.out, .inr ⟨rfl, HRM.out, by show _ = z * 4096; first | exact HZA.out | omega⟩⟩
     have hs1 := hsg.keep bB
     clear SPc HSX HSS HFP HNB HRM KM bX hb3 hsg bB BL BL0 lt4 HNO
     have SP2 := SP1.setG (.slice x1 x2 x3) (.slice x4 x5 x6) (.int .u64 (bs : Int)) (.slice x7 x8 x9)
     have hs2 := slg_S4 hs1 SP1.bG x1 x4 x7 x2 x3 x5 x6 x8 x9 (bs : Int)
     obtain ⟨c0, c1, c2, c3, c4, c5⟩ := SP1.bG.cells
     obtain ⟨y0, y1, y2, y3, y4, y5⟩ := SP1.bG.frees
     obtain ⟨W2, hW2⟩ : ∃ y, S4 W1 nG (.slice x1 x2 x3) (.slice x4 x5 x6) (.int .u64 (bs : Int)) (.slice x7 x8 x9) = y := ⟨_, rfl⟩
     rw [hW2] at SP2 hs2
     unfold S4 at hW2
     have SP := SP2
     have hs3 := hs2
     clear SP1 SP2 hs1 hs2
     obtain ⟨m0, m1, m2, m3, m4, m5⟩ := SP.bG.cells
     obtain ⟨q0, q1, q2, q3, q4, q5⟩ := SP.bR.cells
     obtain ⟨f0, f1, f2, f3, f4, f5⟩ := SP.bR.frees
     have HE' : Hid _ := SP.bR.set6 (.slice x1 x2 x3) (.slice x4 x5 x6) (.int .u64 (bs : Int)) (.slice x7 x8 x9) (.int .u32 (st : Int)) (.int .u32 (en : Int))
     have HS' : Hid _ := slg_S6 hs3 SP.bR x1 x4 x7 x2 x3 x5 x6 x8 x9 (bs : Int) (st : Int) (en : Int)
     have HW' : Hid _ := S6.below (B := w.heap.size) (b := nR) SP.bl (by have := SP.ne; omega) (.slice x1 x2 x3) (.slice x4 x5 x6) (.int .u64 (bs : Int)) (.slice x7 x8 x9) (.int .u32 (st : Int)) (.int .u32 (en : Int))
     clear SP hs3
     go_wp2
     obtain ⟨u0, u1, u2, u3, u4, u5⟩ := B6.cells HE'.out
     unfold S6 S4 at u0 u1 u2 u3 u4 u5
     refine bodyPost_ret (v := .tuple #[.agg #[.slice x1 x2 x3, .slice x4 x5 x6, .int .u64 (bs : Int), .slice x7 x8 x9, .int .u32 (st : Int), .int .u32 (en : Int)], .int .u32 ((ZA : Nat) : Int), .int .i64 0]) ?_ rfl ⟨(0, rms, rcs, rps), ZA, HMI.out, x1, x2, x3, x4, x5, x6, x7, x8, x9, rfl, HS'.out, HW'.out⟩
     rw [results_ctt rfl]; simp [go_sem, u0, u1, u2, u3, u4, u5]
    ·have r1 : (rc == 0) = false := by rw [beq_eq_false_iff_ne]; exact hrc0
     have r2 : (rc != 0) = true := by simp [hrc0]
     obtain ⟨rfl, rfl, rfl⟩ := HNO.out hrc0
     have HMI : Hid (MmIs rms rcs rps bs st en a n prot false (rc, rms, rcs, rps) 0) := .inr ⟨HNB.out, z, 0, HFP.out, .inr ⟨rfl, HRM.out, by rw [if_neg hrc0]⟩⟩
     have SP := SP1
     have hs3 := HSS.out
     obtain ⟨c0, c1, c2, c3, c4, c5⟩ := SP1.bG.cells
     clear SPc SP1 HSX HSS HFP HNB HRM KM bX hb3 hsg bB BL BL0 lt4 hrc0 HNO
     obtain ⟨m0, m1, m2, m3, m4, m5⟩ := SP.bG.cells
     obtain ⟨q0, q1, q2, q3, q4, q5⟩ := SP.bR.cells
     obtain ⟨f0, f1, f2, f3, f4, f5⟩ := SP.bR.frees
     have HE' : Hid _ := SP.bR.set6 (.slice am nm pm) (.slice ac nc pc) (.int .u64 (bs : Int)) (.slice ap np pp) (.int .u32 (st : Int)) (.int .u32 (en : Int))
     have HS' : Hid _ := slg_S6 hs3 SP.bR am ac ap nm pm nc pc np pp (bs : Int) (st : Int) (en : Int)
     have HW' : Hid _ := S6.below (B := w.heap.size) (b := nR) SP.bl (by have := SP.ne; omega) (.slice am nm pm) (.slice ac nc pc) (.int .u64 (bs : Int)) (.slice ap np pp) (.int .u32 (st : Int)) (.int .u32 (en : Int))
     clear SP hs3
     go_wp2
     obtain ⟨u0, u1, u2, u3, u4, u5⟩ := B6.cells HE'.out
     unfold S6 S4 at u0 u1 u2 u3 u4 u5
     refine bodyPost_ret (v := .tuple #[.agg #[.slice am nm pm, .slice ac nc pc, .int .u64 (bs : Int), .slice ap np pp, .int .u32 (st : Int), .int .u32 (en : Int)], .int .u32 0, .int .i64 rc]) ?_ rfl ⟨(rc, rms, rcs, rps), 0, HMI.out, am, nm, pm, ac, nc, pc, ap, np, pp, rfl, HS'.out, HW'.out⟩
     rw [results_ctt rfl]; simp [go_sem, u0, u1, u2, u3, u4, u5]
  | false =>
   have HFP : Hid (FpIs ps st en a (pgN n) false fi 0) := .inr (.inl ⟨by have := HPN.out; have := HK.out; omega, .inr ⟨rfl, h4, by have := HPN.out; omega, by have := HPN.out; omega, by have e := HPN.out; rw [← e.1, ← e.2.1]; exact hsb⟩, HPN.out.2.1, rfl⟩)
   have hat : fi * 4096 = a := by have := HPN.out; omega
   rw [hsb] at KS
   have HM0 := fun w' hb' => HM.out fi (by omega) w' hb'
   obtain ⟨R, hR⟩ : ∃ RR, RR = mapR ms cs ps bs fi pg prot := ⟨_, rfl⟩
   have HNO : Hid (R.1 ≠ 0 → R.2.1 = ms ∧ R.2.2.1 = cs ∧ R.2.2.2 = ps) := fun h => by
    rw [hR] at h ⊢
    rw [mapR_no h]; exact ⟨rfl, rfl, rfl⟩
   have KM : Hid (∀ w', Below X.heap.size X w' → Calls Tryz.prog 32 #[.agg #[.slice am nm pm, .slice ac nc pc, .int .u64 (bs : Int), .slice ap np pp], .int .u32 ((fi : Nat) : Int), .int .u32 (pg : Int), .int .i64 prot] w' (GTold R bs w')) := fun w' hb' => by have h := HM0 w' hb'; rw [← hR] at h; exact h
   have HRM : Hid (R = mapR ms cs ps bs fi pg prot) := hR
   obtain ⟨rc, rms, rcs, rps⟩ := R
   have HNO : Hid (rc ≠ 0 → rms = ms ∧ rcs = cs ∧ rps = ps) := HNO.out
   clear HM0 hR
   rw [HPN.out.1] at HRM
   clear HM HKS HPG HPN HPO HK KF hr hfi h1 h4 h5 h6 hlg hp0 hp7 hsb
   go_enter Tryz.func12, Tryz.ntmps12
   go_wp2_with fail
   refine (K20.out _).mono ?_
   rintro e w9 ⟨rfl, rfl⟩
   go_wp2_with fail
   refine KS.mono ?_
   rintro e w2 ⟨rfl, hb2⟩
   have SPc := SP0.keep hb2
   have bX := hb2
   obtain ⟨c0, c1, c2, c3, c4, c5⟩ := SPc.bG.cells
   clear SP0 KS hb2
   go_wp2_with fail
   refine (KM.out _ bX).mono ?_
   rintro e w3 ⟨x1, x2, x3, x4, x5, x6, x7, x8, x9, rfl, hsg, hb3⟩
   obtain ⟨Wb, W1, nL, hWb, hnL, BL0, hW1, BL, SP1, bB, lt4⟩ := (SPc.keep hb3).lay (.slice x1 x2 x3) (.slice x4 x5 x6) (.int .u64 (bs : Int)) (.slice x7 x8 x9)
   unfold S4 at hW1
   obtain ⟨k0, k1, k2, k3⟩ := BL0.cells
   obtain ⟨l0, l1, l2, l3⟩ := BL0.frees
   obtain ⟨d0, d1, d2, d3⟩ := BL.cells
   have HSS : Hid (SlG W1 (.slice am nm pm) (.slice ac nc pc) (.slice ap np pp) ms cs ps) := HSX.out.keep (below_tr bX (below_tr hb3 bB))
   by_cases hrc0 : rc = 0
   ·subst hrc0
    have HMI : Hid (MmIs ms cs ps bs st en a n prot false (0, rms, rcs, rps) (a)) := .inr ⟨HNB.out, fi, 0, HFP.out, .inr ⟨rfl, HRM.out, by show _ = fi * 4096; first | exact HZA.out | omega⟩⟩
    have hs1 := hsg.keep bB
    clear SPc HSX HSS HFP HNB HRM KM bX hb3 hsg bB BL BL0 lt4 HNO
    have SP2 := SP1.setG (.slice x1 x2 x3) (.slice x4 x5 x6) (.int .u64 (bs : Int)) (.slice x7 x8 x9)
    have hs2 := slg_S4 hs1 SP1.bG x1 x4 x7 x2 x3 x5 x6 x8 x9 (bs : Int)
    obtain ⟨c0, c1, c2, c3, c4, c5⟩ := SP1.bG.cells
    obtain ⟨y0, y1, y2, y3, y4, y5⟩ := SP1.bG.frees
    obtain ⟨W2, hW2⟩ : ∃ y, S4 W1 nG (.slice x1 x2 x3) (.slice x4 x5 x6) (.int .u64 (bs : Int)) (.slice x7 x8 x9) = y := ⟨_, rfl⟩
    rw [hW2] at SP2 hs2
    unfold S4 at hW2
    have SP := SP2
    have hs3 := hs2
    clear SP1 SP2 hs1 hs2
    obtain ⟨m0, m1, m2, m3, m4, m5⟩ := SP.bG.cells
    obtain ⟨q0, q1, q2, q3, q4, q5⟩ := SP.bR.cells
    obtain ⟨f0, f1, f2, f3, f4, f5⟩ := SP.bR.frees
    have HE' : Hid _ := SP.bR.set6 (.slice x1 x2 x3) (.slice x4 x5 x6) (.int .u64 (bs : Int)) (.slice x7 x8 x9) (.int .u32 (st : Int)) (.int .u32 (en : Int))
    have HS' : Hid _ := slg_S6 hs3 SP.bR x1 x4 x7 x2 x3 x5 x6 x8 x9 (bs : Int) (st : Int) (en : Int)
    have HW' : Hid _ := S6.below (B := w.heap.size) (b := nR) SP.bl (by have := SP.ne; omega) (.slice x1 x2 x3) (.slice x4 x5 x6) (.int .u64 (bs : Int)) (.slice x7 x8 x9) (.int .u32 (st : Int)) (.int .u32 (en : Int))
    clear SP hs3
    go_wp2
    obtain ⟨u0, u1, u2, u3, u4, u5⟩ := B6.cells HE'.out
    unfold S6 S4 at u0 u1 u2 u3 u4 u5
    refine bodyPost_ret (v := .tuple #[.agg #[.slice x1 x2 x3, .slice x4 x5 x6, .int .u64 (bs : Int), .slice x7 x8 x9, .int .u32 (st : Int), .int .u32 (en : Int)], .int .u32 ((a : Nat) : Int), .int .i64 0]) ?_ rfl ⟨(0, rms, rcs, rps), a, HMI.out, x1, x2, x3, x4, x5, x6, x7, x8, x9, rfl, HS'.out, HW'.out⟩
    rw [results_ctt rfl]; simp [go_sem, u0, u1, u2, u3, u4, u5]
   ·have r1 : (rc == 0) = false := by rw [beq_eq_false_iff_ne]; exact hrc0
    have r2 : (rc != 0) = true := by simp [hrc0]
    obtain ⟨rfl, rfl, rfl⟩ := HNO.out hrc0
    have HMI : Hid (MmIs rms rcs rps bs st en a n prot false (rc, rms, rcs, rps) 0) := .inr ⟨HNB.out, fi, 0, HFP.out, .inr ⟨rfl, HRM.out, by rw [if_neg hrc0]⟩⟩
    have SP := SP1
    have hs3 := HSS.out
    obtain ⟨c0, c1, c2, c3, c4, c5⟩ := SP1.bG.cells
    clear SPc SP1 HSX HSS HFP HNB HRM KM bX hb3 hsg bB BL BL0 lt4 hrc0 HNO
    obtain ⟨m0, m1, m2, m3, m4, m5⟩ := SP.bG.cells
    obtain ⟨q0, q1, q2, q3, q4, q5⟩ := SP.bR.cells
    obtain ⟨f0, f1, f2, f3, f4, f5⟩ := SP.bR.frees
    have HE' : Hid _ := SP.bR.set6 (.slice am nm pm) (.slice ac nc pc) (.int .u64 (bs : Int)) (.slice ap np pp) (.int .u32 (st : Int)) (.int .u32 (en : Int))
    have HS' : Hid _ := slg_S6 hs3 SP.bR am ac ap nm pm nc pc np pp (bs : Int) (st : Int) (en : Int)
    have HW' : Hid _ := S6.below (B := w.heap.size) (b := nR) SP.bl (by have := SP.ne; omega) (.slice am nm pm) (.slice ac nc pc) (.int .u64 (bs : Int)) (.slice ap np pp) (.int .u32 (st : Int)) (.int .u32 (en : Int))
    clear SP hs3
    go_wp2
    obtain ⟨u0, u1, u2, u3, u4, u5⟩ := B6.cells HE'.out
    unfold S6 S4 at u0 u1 u2 u3 u4 u5
    refine bodyPost_ret (v := .tuple #[.agg #[.slice am nm pm, .slice ac nc pc, .int .u64 (bs : Int), .slice ap np pp, .int .u32 (st : Int), .int .u32 (en : Int)], .int .u32 0, .int .i64 rc]) ?_ rfl ⟨(rc, rms, rcs, rps), 0, HMI.out, am, nm, pm, ac, nc, pc, ap, np, pp, rfl, HS'.out, HW'.out⟩
    rw [results_ctt rfl]; simp [go_sem, u0, u1, u2, u3, u4, u5]
end Go.Proofs.YtkpmkgkfpikpfaaGreat
