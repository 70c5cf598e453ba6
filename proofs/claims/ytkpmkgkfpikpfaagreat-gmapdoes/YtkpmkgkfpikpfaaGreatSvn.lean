/- What is proved here: plain words for the document's spaces. -/
import Derived.Test.YtkpmkgkfpikpfaaGreatSu
import Derived.Test.YtkpmkgkfpikpfaaGreatSv
import Derived.Test.YtkpmkgkfpikpfaaGreatSz
import Derived.Test.YtkpmkgkfpikpfaaGreatEachl
namespace Go.Proofs.YtkpmkgkfpikpfaaGreat
open Go.RowKit
set_option linter.unusedVariables false
set_option linter.unusedSimpArgs false
set_option maxRecDepth 100000
def GtT (rc : Int) (bs : Nat) (m c p : List (Nat × Int)) (v : Value) (w : World) : Prop := ∃ x1 x2 x3 x4 x5 x6 x7 x8 x9, v = .tuple #[.agg #[.slice x1 x2 x3, .slice x4 x5 x6, .int .u64 (bs : Int), .slice x7 x8 x9], .int .i64 rc] ∧ SlG w (.slice x1 x2 x3) (.slice x4 x5 x6) (.slice x7 x8 x9) m c p
def NewZ (B : Nat) (v : Value) (w : World) : Prop := ∃ b, v = .pointer (some ⟨b, 0, none⟩) ∧ B ≤ b ∧ B4 w b 29 (.slice none 0 0) (.slice none 0 0) (.int .u64 0) (.slice none 0 0)
theorem B6.o4 {w : World} {n t b : Nat} {x0 x1 x2 x3 x4 x5 : Value} (h : B6 w n t x0 x1 x2 x3 x4 x5) (hn : n ≠ b) (y0 y1 y2 y3 : Value) : B6 (S4 w b y0 y1 y2 y3) n t x0 x1 x2 x3 x4 x5 := (S4.other w b n y0 y1 y2 y3 hn).trans h
theorem un_no {ms cs ps : List (Nat × Int)} {bs f n : Nat} (h : (unmapR ms cs ps bs f n).1 ≠ 0) : unmapR ms cs ps bs f n = ((unmapR ms cs ps bs f n).1, ms, cs, ps) := by
 unfold unmapR at *
 split at h
 ·rename_i e; rw [if_pos e]
 ·exact absurd rfl h
theorem prot_no {ms cs ps : List (Nat × Int)} {f n : Nat} {pr : Int} (h : (protR ms cs ps f n pr).1 ≠ 0) : protR ms cs ps f n pr = ((protR ms cs ps f n pr).1, ms, cs, ps) := by
 unfold protR at *
 split at h
 ·rename_i e; rw [if_pos e]
 ·rename_i e
  rw [if_neg e]
  simp only at h ⊢
  split at h
  ·exact absurd rfl h
  ·rename_i e2; rw [if_neg e2, if_neg e2]
structure GoI (w : World) (am ac ap : Option Addr) (nm pm nc pc np pp bs st en nG nR b : Nat) (x1 x4 x7 : Option Addr) (x2 x3 x5 x6 x8 x9 : Nat) (m c p mo co po : List (Nat × Int)) (V : World) : Prop where
 bG : B6 V nG 32 (.slice am nm pm) (.slice ac nc pc) (.int .u64 (bs : Int)) (.slice ap np pp) (.int .u32 (st : Int)) (.int .u32 (en : Int))
 bR : B6 V nR 32 (.slice none 0 0) (.slice none 0 0) (.int .u64 0) (.slice none 0 0) (.int .u32 0) (.int .u32 0)
 bg : B4 V b 29 (.slice x1 x2 x3) (.slice x4 x5 x6) (.int .u64 (bs : Int)) (.slice x7 x8 x9)
 sl : SlG V (.slice x1 x2 x3) (.slice x4 x5 x6) (.slice x7 x8 x9) m c p
 os : SlG V (.slice am nm pm) (.slice ac nc pc) (.slice ap np pp) mo co po
 bl : Below w.heap.size w V
 ne : nG ≠ b ∧ nR ≠ b ∧ nG ≠ nR ∧ w.heap.size ≤ nG ∧ w.heap.size ≤ nR ∧ w.heap.size ≤ b
set_option maxHeartbeats 4000000 in
theorem rmunmap14 (vm vc vp : Value) (bs st en a n : Nat) (ms cs ps : List (Nat × Int)) (w : World) (hsl : SlG w vm vc vp ms cs ps) (hrc : ∀ y ∈ cs, y.1 < 18446744073709551616) (hw : Words cs) (hf : FitG ms cs ps bs) (ha : a < 4294967296) (hn : n < 4294967296) :
  Calls Tryz.prog 14 #[.agg #[vm, vc, .int .u64 (bs : Int), vp, .int .u32 (st : Int), .int .u32 (en : Int)], .int .u32 (a : Int), .int .u32 (n : Int)] w (STold (munR ms cs ps bs a n) bs st en w) := by
 obtain ⟨am, nm, pm, ac, nc, pc, ap, np, pp, rfl, rfl, rfl⟩ := hsl.shape
 obtain ⟨Xa, X, nR, hXa, hX, hnR, BG, BR, hb, l1, l2⟩ := new2S w (.slice am nm pm) (.slice ac nc pc) (.int .u64 (bs : Int)) (.slice ap np pp) (.int .u32 (st : Int)) (.int .u32 (en : Int))
 obtain ⟨nG, hnG⟩ : ∃ z, w.heap.size = z := ⟨_, rfl⟩
 rw [hnG] at BG l1
 obtain ⟨c0, c1, c2, c3, c4, c5⟩ := BG.cells
 have HNE : Hid (w.heap.size = nG ∧ nG < nR ∧ nR < X.heap.size) := ⟨hnG, l1, l2⟩
 have HNR : Hid (w.heap.size ≤ nR) := by have := HNE.out; show _ ≤ _; omega
 obtain ⟨fi, hfi⟩ : ∃ z, z = a / 4096 := ⟨_, rfl⟩
 obtain ⟨pg, hpg⟩ : ∃ z, z = pgN n := ⟨_, rfl⟩
 have hpl : pg ≤ 1048576 := by rw [hpg, pgN]; omega
 have hfl : fi < 1048576 := by omega
 obtain ⟨r, hr⟩ : ∃ z, z = a % 4096 := ⟨_, rfl⟩
 have x1' : (a : Int) % 4096 = (r : Int) := by omega
 have x1'' : (a : Int).tmod 4096 = (r : Int) := by rw [Int.tmod_eq_emod_of_nonneg (by omega)]; omega
 have w1' : (a : Int) / 4096 = (fi : Int) := by omega
 have w2' : (a : Int).tdiv 4096 = (fi : Int) := by rw [Int.tdiv_eq_ediv_of_nonneg (by omega)]; omega
 obtain ⟨lf, hlf⟩ : ∃ z, z = 1048576 - fi := ⟨_, rfl⟩
 have w3' : IntKind.u32.wrap (1048576 - (fi : Int)) = (lf : Int) := by rw [IntKind.wrap_u32]; omega
 have w4' : 1048576 - (fi : Int) = (lf : Int) := by omega
 have w5' : (fi : Int) % 4294967296 = (fi : Int) := by omega
 have K20 : Hid (∀ w', Calls Tryz.prog 20 #[.int .u32 (n : Int)] w' fun e w'' => e = .returned (.int .u32 (pg : Int)) ∧ w'' = w') := fun w' => by rw [hpg]; exact count20 n w' hn
 have w6' : IntKind.u32.wrap (fi : Int) = (fi : Int) := by rw [IntKind.wrap_u32]; omega
 have KC : Hid (∀ w', Below X.heap.size X w' → Calls Tryz.prog 34 #[.agg #[.slice am nm pm, .slice ac nc pc, .int .u64 (bs : Int), .slice ap np pp], .int .u32 (fi : Int), .int .u32 (pg : Int)] w' (GTold (unmapR ms cs ps bs fi pg) bs w')) := fun w' hb' => told21 _ _ _ ms cs ps bs fi pg 0 w' ((hsl.keep hb).keep hb') hrc hw (by omega) (by omega) hf
 obtain ⟨R, hR⟩ : ∃ z, z = munR ms cs ps bs a n := ⟨_, rfl⟩
 rw [← hR]
 have HR0 : Hid (R = if r ≠ 0 ∨ n = 0 ∨ 1048576 < fi + pg then (22, ms, cs, ps) else unmapR ms cs ps bs fi pg) := by show _ = _; rw [hR, munR, ← hfi, ← hpg, ← hr]
 have HSX : Hid (SlG X (.slice am nm pm) (.slice ac nc pc) (.slice ap np pp) ms cs ps) := hsl.keep hb
 clear hR hpg hsl hrc hw hf
 by_cases h1 : r = 0
 case neg =>
  have HR : Hid (R = (22, ms, cs, ps)) := by have h := HR0.out; rw [if_pos (Or.inl h1)] at h; exact h
  have h01 : ((r : Int) != 0) = true := by simp; omega
  have h02 : ((r : Int) = 0) = False := by simp; omega
  have h03 : (r = 0) = False := by simp [h1]
  clear h1 HR0 KC hr hfi hlf
  have hs1 := HSX.out
  obtain ⟨x1, hx1⟩ : ∃ z, z = am := ⟨_, rfl⟩
  obtain ⟨x2, hx2⟩ : ∃ z, z = nm := ⟨_, rfl⟩
  obtain ⟨x3, hx3⟩ : ∃ z, z = pm := ⟨_, rfl⟩
  obtain ⟨x4, hx4⟩ : ∃ z, z = ac := ⟨_, rfl⟩
  obtain ⟨x5, hx5⟩ : ∃ z, z = nc := ⟨_, rfl⟩
  obtain ⟨x6, hx6⟩ : ∃ z, z = pc := ⟨_, rfl⟩
  obtain ⟨x7, hx7⟩ : ∃ z, z = ap := ⟨_, rfl⟩
  obtain ⟨x8, hx8⟩ : ∃ z, z = np := ⟨_, rfl⟩
  obtain ⟨x9, hx9⟩ : ∃ z, z = pp := ⟨_, rfl⟩
  subst hx1 hx2 hx3 hx4 hx5 hx6 hx7 hx8 hx9
  have BRy := BR
  have bW := hb
  clear BR BG hb HSX
  go_enter Tryz.func14, Tryz.ntmps14
  obtain ⟨q0, q1, q2, q3, q4, q5⟩ := BRy.cells
  obtain ⟨f0, f1, f2, f3, f4, f5⟩ := BRy.frees
  have HE' : Hid _ := BRy.set6 (.slice x1 x2 x3) (.slice x4 x5 x6) (.int .u64 (bs : Int)) (.slice x7 x8 x9) (.int .u32 (st : Int)) (.int .u32 (en : Int))
  have HS' : Hid _ := slg_S6 hs1 BRy x1 x4 x7 x2 x3 x5 x6 x8 x9 (bs : Int) (st : Int) (en : Int)
  have HW' : Hid _ := S6.below (B := w.heap.size) (b := nR) bW HNR.out (.slice x1 x2 x3) (.slice x4 x5 x6) (.int .u64 (bs : Int)) (.slice x7 x8 x9) (.int .u32 (st : Int)) (.int .u32 (en : Int))
  clear BRy hs1 bW
  go_wp2
  obtain ⟨u0, u1, u2, u3, u4, u5⟩ := B6.cells HE'.out
  unfold S6 S4 at u0 u1 u2 u3 u4 u5
  refine bodyPost_ret (v := .tuple #[.agg #[.slice x1 x2 x3, .slice x4 x5 x6, .int .u64 (bs : Int), .slice x7 x8 x9, .int .u32 (st : Int), .int .u32 (en : Int)], .int .i64 22]) ?_ rfl (by rw [HR.out]; exact ⟨x1, x2, x3, x4, x5, x6, x7, x8, x9, rfl, HS'.out, HW'.out⟩)
  rw [results_cell_tmp rfl]; simp [go_sem, u0, u1, u2, u3, u4, u5]
 subst h1
 by_cases h2 : n = 0
 ·have HR : Hid (R = (22, ms, cs, ps)) := by have h := HR0.out; rw [if_pos (Or.inr (Or.inl h2))] at h; exact h
  clear HR0 KC hr hfi hlf
  subst h2
  have hs1 := HSX.out
  obtain ⟨x1, hx1⟩ : ∃ z, z = am := ⟨_, rfl⟩
  obtain ⟨x2, hx2⟩ : ∃ z, z = nm := ⟨_, rfl⟩
  obtain ⟨x3, hx3⟩ : ∃ z, z = pm := ⟨_, rfl⟩
  obtain ⟨x4, hx4⟩ : ∃ z, z = ac := ⟨_, rfl⟩
  obtain ⟨x5, hx5⟩ : ∃ z, z = nc := ⟨_, rfl⟩
  obtain ⟨x6, hx6⟩ : ∃ z, z = pc := ⟨_, rfl⟩
  obtain ⟨x7, hx7⟩ : ∃ z, z = ap := ⟨_, rfl⟩
  obtain ⟨x8, hx8⟩ : ∃ z, z = np := ⟨_, rfl⟩
  obtain ⟨x9, hx9⟩ : ∃ z, z = pp := ⟨_, rfl⟩
  subst hx1 hx2 hx3 hx4 hx5 hx6 hx7 hx8 hx9
  have BRy := BR
  have bW := hb
  clear BR BG hb HSX
  go_enter Tryz.func14, Tryz.ntmps14
  obtain ⟨q0, q1, q2, q3, q4, q5⟩ := BRy.cells
  obtain ⟨f0, f1, f2, f3, f4, f5⟩ := BRy.frees
  have HE' : Hid _ := BRy.set6 (.slice x1 x2 x3) (.slice x4 x5 x6) (.int .u64 (bs : Int)) (.slice x7 x8 x9) (.int .u32 (st : Int)) (.int .u32 (en : Int))
  have HS' : Hid _ := slg_S6 hs1 BRy x1 x4 x7 x2 x3 x5 x6 x8 x9 (bs : Int) (st : Int) (en : Int)
  have HW' : Hid _ := S6.below (B := w.heap.size) (b := nR) bW HNR.out (.slice x1 x2 x3) (.slice x4 x5 x6) (.int .u64 (bs : Int)) (.slice x7 x8 x9) (.int .u32 (st : Int)) (.int .u32 (en : Int))
  clear BRy hs1 bW
  go_wp2
  obtain ⟨u0, u1, u2, u3, u4, u5⟩ := B6.cells HE'.out
  unfold S6 S4 at u0 u1 u2 u3 u4 u5
  refine bodyPost_ret (v := .tuple #[.agg #[.slice x1 x2 x3, .slice x4 x5 x6, .int .u64 (bs : Int), .slice x7 x8 x9, .int .u32 (st : Int), .int .u32 (en : Int)], .int .i64 22]) ?_ rfl (by rw [HR.out]; exact ⟨x1, x2, x3, x4, x5, x6, x7, x8, x9, rfl, HS'.out, HW'.out⟩)
  rw [results_cell_tmp rfl]; simp [go_sem, u0, u1, u2, u3, u4, u5]
 have h2' : ((n : Int) == 0) = false := by simp; omega
 have h2'' : (n = 0) = False := by simp [h2]
 have h2a : ((n : Int) = 0) = False := by simp [h2]
 by_cases h3 : 1048576 < fi + pg
 ·have HR : Hid (R = (22, ms, cs, ps)) := by have h := HR0.out; rw [if_pos (Or.inr (Or.inr h3))] at h; exact h
  have h3' : (lf : Int) < (pg : Int) := by omega
  clear HR0 KC h2 hr hfi hlf h3
  have hs1 := HSX.out
  obtain ⟨x1, hx1⟩ : ∃ z, z = am := ⟨_, rfl⟩
  obtain ⟨x2, hx2⟩ : ∃ z, z = nm := ⟨_, rfl⟩
  obtain ⟨x3, hx3⟩ : ∃ z, z = pm := ⟨_, rfl⟩
  obtain ⟨x4, hx4⟩ : ∃ z, z = ac := ⟨_, rfl⟩
  obtain ⟨x5, hx5⟩ : ∃ z, z = nc := ⟨_, rfl⟩
  obtain ⟨x6, hx6⟩ : ∃ z, z = pc := ⟨_, rfl⟩
  obtain ⟨x7, hx7⟩ : ∃ z, z = ap := ⟨_, rfl⟩
  obtain ⟨x8, hx8⟩ : ∃ z, z = np := ⟨_, rfl⟩
  obtain ⟨x9, hx9⟩ : ∃ z, z = pp := ⟨_, rfl⟩
  subst hx1 hx2 hx3 hx4 hx5 hx6 hx7 hx8 hx9
  have BRy := BR
  have bW := hb
  clear BR BG hb HSX
  go_enter Tryz.func14, Tryz.ntmps14
  go_wp2_with fail
  refine (K20.out _).mono ?_
  rintro e w9 ⟨rfl, rfl⟩
  obtain ⟨q0, q1, q2, q3, q4, q5⟩ := BRy.cells
  obtain ⟨f0, f1, f2, f3, f4, f5⟩ := BRy.frees
  have HE' : Hid _ := BRy.set6 (.slice x1 x2 x3) (.slice x4 x5 x6) (.int .u64 (bs : Int)) (.slice x7 x8 x9) (.int .u32 (st : Int)) (.int .u32 (en : Int))
  have HS' : Hid _ := slg_S6 hs1 BRy x1 x4 x7 x2 x3 x5 x6 x8 x9 (bs : Int) (st : Int) (en : Int)
  have HW' : Hid _ := S6.below (B := w.heap.size) (b := nR) bW HNR.out (.slice x1 x2 x3) (.slice x4 x5 x6) (.int .u64 (bs : Int)) (.slice x7 x8 x9) (.int .u32 (st : Int)) (.int .u32 (en : Int))
  clear BRy hs1 bW
  go_wp2
  obtain ⟨u0, u1, u2, u3, u4, u5⟩ := B6.cells HE'.out
  unfold S6 S4 at u0 u1 u2 u3 u4 u5
  refine bodyPost_ret (v := .tuple #[.agg #[.slice x1 x2 x3, .slice x4 x5 x6, .int .u64 (bs : Int), .slice x7 x8 x9, .int .u32 (st : Int), .int .u32 (en : Int)], .int .i64 22]) ?_ rfl (by rw [HR.out]; exact ⟨x1, x2, x3, x4, x5, x6, x7, x8, x9, rfl, HS'.out, HW'.out⟩)
  rw [results_cell_tmp rfl]; simp [go_sem, u0, u1, u2, u3, u4, u5]
 have HR0 : Hid (R = unmapR ms cs ps bs fi pg) := by have h := HR0.out; rw [if_neg (by omega)] at h; exact h
 have h3' : decide ((lf : Int) < (pg : Int)) = false := decide_eq_false (by omega)
 have h3'' : (lf < pg) = False := eq_false (by omega)
 rw [← HR0.out] at KC
 have HNO : Hid (R.1 ≠ 0 → R.2.1 = ms ∧ R.2.2.1 = cs ∧ R.2.2.2 = ps) := fun h => by
  have e := HR0.out
  rw [e] at h ⊢
  have e2 := un_no h
  rw [e2]; exact ⟨rfl, rfl, rfl⟩
 obtain ⟨rc, rms, rcs, rps⟩ := R
 have HNO : Hid (rc ≠ 0 → rms = ms ∧ rcs = cs ∧ rps = ps) := HNO.out
 clear h2 h3 HR0 hr hfi hlf
 go_enter Tryz.func14, Tryz.ntmps14
 go_wp2_with fail
 refine (K20.out _).mono ?_
 rintro e w9 ⟨rfl, rfl⟩
 go_wp2
 refine E2.wp_region_late (R := Ext) [⟨27, fun v _ => v = .pointer (some ⟨nG, 0, none⟩), fun _ _ _ _ h => h⟩, ⟨28, fun v _ => v = .agg #[.slice am nm pm, .slice ac nc pc, .int .u64 (bs : Int), .slice ap np pp], fun _ _ _ _ h => h⟩, ⟨29, fun v _ => v = .int .u32 (a : Int), fun _ _ _ _ h => h⟩, ⟨30, fun v _ => v = .int .u32 (fi : Int), fun _ _ _ _ h => h⟩, ⟨31, fun v _ => v = .int .u32 (n : Int), fun _ _ _ _ h => h⟩, ⟨32, fun v _ => v = .int .u32 (pg : Int), fun _ _ _ _ h => h⟩, ⟨33, fun v w => GtT rc bs rms rcs rps v w, fun v w w' hb ⟨x1, x2, x3, x4, x5, x6, x7, x8, x9, e, h⟩ => ⟨x1, x2, x3, x4, x5, x6, x7, x8, x9, e, h.keep hb⟩⟩, ⟨26, fun v w => GtT rc bs rms rcs rps v w, fun v w w' hb ⟨x1, x2, x3, x4, x5, x6, x7, x8, x9, e, h⟩ => ⟨x1, x2, x3, x4, x5, x6, x7, x8, x9, e, h.keep hb⟩⟩, ⟨34, fun v w => FrG bs rms rcs rps v w, fun v w w' hb ⟨x1, x2, x3, x4, x5, x6, x7, x8, x9, e, h⟩ => ⟨x1, x2, x3, x4, x5, x6, x7, x8, x9, e, h.keep hb⟩⟩, ⟨35, fun v _ => v = .int .i64 rc, fun _ _ _ _ h => h⟩, ⟨8, fun v w => NewZ w9.heap.size v w, fun v w w' hb ⟨b, e, l, h⟩ => ⟨b, e, l, h.keep hb⟩⟩] _ 11 9 (by kernel_rfl) rfl (by kernel_rfl) (by decide) (by decide) (by kernel_rfl) (Below.drew (Below.refl _ _)) (fun _ _ _ h1 h2 => below_tr h1 h2) (fun QQ => ⟨?_, ?_, ?_, ?_, ?_, ?_, ?_, ?_, ?_, ?_, ?_, trivial⟩) (fun f wy hR hf A hA => ?_) (fun f wy hR hf A hA i hi hmi => ?_)
 ·intro A wx hR hout hdep K hK
  have h3 : A.tmps[3]?.getD undef = .pointer (some ⟨nG, 0, none⟩) := hout 3 (by kernel_rfl)
  refine if_yes (by kernel_rfl) ?_
  simp [go_sem, h3, w1', w2', w5', w6']
  exact hK.out _ _ (Below.refl _ _) rfl
 ·intro A wx hR hout hdep K hK
  have h27 : A.tmps[27]?.getD undef = .pointer (some ⟨nG, 0, none⟩) := hdep 27 (by kernel_rfl)
  refine if_yes (by kernel_rfl) ?_
  have c0 := keep_cell hR c0
  have c1 := keep_cell hR c1
  have c2 := keep_cell hR c2
  have c3 := keep_cell hR c3
  simp [go_sem, h27, c0, c1, c2, c3, w1', w2', w5', w6']
  exact hK.out _ _ (Below.refl _ _) rfl
 ·intro A wx hR hout hdep K hK
  have h1 : A.tmps[1]?.getD undef = .int .u32 (a : Int) := hout 1 (by kernel_rfl)
  refine if_yes (by kernel_rfl) ?_
  simp [go_sem, h1, w1', w2', w5', w6']
  exact hK.out _ _ (Below.refl _ _) rfl
 ·intro A wx hR hout hdep K hK
  have h29 : A.tmps[29]?.getD undef = .int .u32 (a : Int) := hdep 29 (by kernel_rfl)
  refine if_yes (by kernel_rfl) ?_
  simp [go_sem, h29, w1', w2', w5', w6']
  exact hK.out _ _ (Below.refl _ _) rfl
 ·intro A wx hR hout hdep K hK
  have h2 : A.tmps[2]?.getD undef = .int .u32 (n : Int) := hout 2 (by kernel_rfl)
  refine if_yes (by kernel_rfl) ?_
  simp [go_sem, h2, w1', w2', w5', w6']
  exact hK.out _ _ (Below.refl _ _) rfl
 ·intro A wx hR hout hdep K hK
  have h31 : A.tmps[31]?.getD undef = .int .u32 (n : Int) := hdep 31 (by kernel_rfl)
  refine if_yes (by kernel_rfl) ?_
  simp [go_sem, h31, w1', w2', w5', w6']
  refine (K20.out _).mono ?_
  rintro e wG ⟨rfl, rfl⟩
  exact hK.out _ _ (Below.refl _ _) rfl
 ·intro A wx hR hout hdep K hK
  have h28 : A.tmps[28]?.getD undef = .agg #[.slice am nm pm, .slice ac nc pc, .int .u64 (bs : Int), .slice ap np pp] := hdep 28 (by kernel_rfl)
  have h30 : A.tmps[30]?.getD undef = .int .u32 (fi : Int) := hdep 30 (by kernel_rfl)
  have h32 : A.tmps[32]?.getD undef = .int .u32 (pg : Int) := hdep 32 (by kernel_rfl)
  refine if_yes (by kernel_rfl) ?_
  simp [go_sem, h28, h30, h32, w1', w2', w5', w6']
  refine (KC.out _ hR).mono ?_
  rintro e wG ⟨x1, x2, x3, x4, x5, x6, x7, x8, x9, rfl, hoG, hbG⟩
  exact hK.out _ _ hbG ⟨x1, x2, x3, x4, x5, x6, x7, x8, x9, rfl, hoG⟩
 ·intro A wx hR hout hdep K hK
  have h33 := hdep 33 (by kernel_rfl)
  refine if_yes (by kernel_rfl) ?_
  obtain ⟨x1, x2, x3, x4, x5, x6, x7, x8, x9, e, o⟩ : GtT rc bs rms rcs rps _ wx := h33
  simp [go_sem, e]
  exact hK.out _ _ (Below.refl _ _) ⟨x1, x2, x3, x4, x5, x6, x7, x8, x9, rfl, o⟩
 ·intro A wx hR hout hdep K hK
  have h26 := hdep 26 (by kernel_rfl)
  refine if_yes (by kernel_rfl) ?_
  obtain ⟨x1, x2, x3, x4, x5, x6, x7, x8, x9, e, o⟩ : GtT rc bs rms rcs rps _ wx := h26
  simp [go_sem, e]
  exact hK.out _ _ (Below.refl _ _) ⟨x1, x2, x3, x4, x5, x6, x7, x8, x9, rfl, o⟩
 ·intro A wx hR hout hdep K hK
  have h26 := hdep 26 (by kernel_rfl)
  refine if_yes (by kernel_rfl) ?_
  obtain ⟨x1, x2, x3, x4, x5, x6, x7, x8, x9, e, o⟩ : GtT rc bs rms rcs rps _ wx := h26
  simp [go_sem, e]
  exact hK.out _ _ (Below.refl _ _) rfl
 ·intro A wx hR hout hdep K hK
  refine if_yes (by kernel_rfl) ?_
  simp [go_sem]
  exact hK.out _ _ ((Below.refl _ _).alloc (Nat.le_refl _) _) ⟨_, rfl, hR.size, B4.new _ _ _ _ _ _⟩
 focus
  obtain ⟨x1, x2, x3, x4, x5, x6, x7, x8, x9, e0, o0⟩ : FrG bs rms rcs rps (f 34) wy := hf 34 (by kernel_rfl)
  obtain ⟨b, e8, lb, B8⟩ : NewZ w9.heap.size (f 8) wy := hf 8 (by kernel_rfl)
  have e1 : f 35 = .int .i64 rc := hf 35 (by kernel_rfl)
  simp only [putSl, E2.putSl, List.take_succ_cons, List.take_zero, Act.put, List.setIfInBounds_toArray, List.set_cons_zero, List.set_cons_succ, e0, e8, e1] at hA
  subst hA
  obtain ⟨q0, q1, q2, q3⟩ := B8.cells
  obtain ⟨z0, z1, z2, z3⟩ := B8.frees
  refine wpAny_ready (rs := [11]) (by kernel_rfl) (by simp) ?_
  refine AllReady.cons rfl (fun K hK => ?_) AllReady.nil
  refine if_yes (by kernel_rfl) ?_
  simp [go_sem, q0, q1, q2, q3, z0, z1, z2, z3]
  refine hK _ _ ?_
  clear hK K
  refine wpAny_ready (rs := [12]) (by kernel_rfl) (by simp) ?_
  refine AllReady.cons rfl (fun K hK => ?_) AllReady.nil
  refine if_yes (by kernel_rfl) ?_
  simp [go_sem]
  refine hK _ _ ?_
  clear hK K
  refine wpAny_done (by kernel_rfl) ?_ _
  have HG : Hid (GoI w am ac ap nm pm nc pc np pp bs st en nG nR b x1 x4 x7 x2 x3 x5 x6 x8 x9 rms rcs rps ms cs ps (S4 wy b (.slice x1 x2 x3) (.slice x4 x5 x6) (.int .u64 (bs : Int)) (.slice x7 x8 x9))) := by
   have hN := HNE.out
   exact ⟨(BG.keep hR).o4 (by omega) _ _ _ _, (BR.keep hR).o4 (by omega) _ _ _ _, B8.S4 _ _ _ _, slg_4 o0 B8 x1 x4 x7 x2 x3 x5 x6 x8 x9 (bs : Int), HSX.out.keep (S4.below hR lb _ _ _ _), S4.below (below_tr hb hR) (by omega) _ _ _ _, by omega⟩
  clear B8 q0 q1 q2 q3 z0 z1 z2 z3 o0 hR BG BR hb c0 c1 c2 c3 c4 c5 HSX hnR hXa hX KC K20 x1' x1'' w1' w2' w3' w4' w5' w6' h2' h2'' h2a h3' h3'' hpl hfl
 rotate_left
 focus
  have hi' : i = 9 ∨ i = 11 := by
   rw [show Region.ready .any _ _ = [9, 11] by kernel_rfl] at hi
   simpa using hi
  obtain rfl : i = 11 := by omega
  clear hi hi' hmi
  obtain ⟨x1, x2, x3, x4, x5, x6, x7, x8, x9, e0, o0⟩ : FrG bs rms rcs rps (f 34) wy := hf 34 (by kernel_rfl) (by simp)
  obtain ⟨b, e8, lb, B8⟩ : NewZ w9.heap.size (f 8) wy := hf 8 (by kernel_rfl) (by simp)
  obtain ⟨y1, y2, y3, y4, y5, y6, y7, y8, y9, e26, _⟩ : GtT rc bs rms rcs rps (f 26) wy := hf 26 (by kernel_rfl) (by simp)
  simp only [putSl, E2.putSl, List.take_succ_cons, List.take_zero, Act.put, List.setIfInBounds_toArray, List.set_cons_zero, List.set_cons_succ, e0, e8, e26] at hA
  subst hA
  obtain ⟨q0, q1, q2, q3⟩ := B8.cells
  obtain ⟨z0, z1, z2, z3⟩ := B8.frees
  refine (show AllReady _ _ _ _ 2 _ _ _ [11] from AllReady.cons rfl (fun K hK => ?_) AllReady.nil) 11 (by simp)
  refine if_yes (by kernel_rfl) ?_
  simp [go_sem, q0, q1, q2, q3, z0, z1, z2, z3]
  refine hK _ _ ?_
  clear hK K
  refine wpAny_ready (rs := [9]) (by kernel_rfl) (by simp) ?_
  refine AllReady.cons rfl (fun K hK => ?_) AllReady.nil
  refine if_yes (by kernel_rfl) ?_
  simp [go_sem]
  refine hK _ _ ?_
  clear hK K
  refine wpAny_ready (rs := [12]) (by kernel_rfl) (by simp) ?_
  refine AllReady.cons rfl (fun K hK => ?_) AllReady.nil
  refine if_yes (by kernel_rfl) ?_
  simp [go_sem]
  refine hK _ _ ?_
  clear hK K
  refine wpAny_done (by kernel_rfl) ?_ _
  have HG : Hid (GoI w am ac ap nm pm nc pc np pp bs st en nG nR b x1 x4 x7 x2 x3 x5 x6 x8 x9 rms rcs rps ms cs ps (S4 wy b (.slice x1 x2 x3) (.slice x4 x5 x6) (.int .u64 (bs : Int)) (.slice x7 x8 x9))) := by
   have hN := HNE.out
   exact ⟨(BG.keep hR).o4 (by omega) _ _ _ _, (BR.keep hR).o4 (by omega) _ _ _ _, B8.S4 _ _ _ _, slg_4 o0 B8 x1 x4 x7 x2 x3 x5 x6 x8 x9 (bs : Int), HSX.out.keep (S4.below hR lb _ _ _ _), S4.below (below_tr hb hR) (by omega) _ _ _ _, by omega⟩
  clear B8 q0 q1 q2 q3 z0 z1 z2 z3 o0 hR BG BR hb c0 c1 c2 c3 c4 c5 HSX hnR hXa hX KC K20 x1' x1'' w1' w2' w3' w4' w5' w6' h2' h2'' h2a h3' h3'' hpl hfl
 all_goals
  obtain ⟨V, hV⟩ : ∃ z, S4 wy b (.slice x1 x2 x3) (.slice x4 x5 x6) (.int .u64 (bs : Int)) (.slice x7 x8 x9) = z := ⟨_, rfl⟩
  rw [hV] at HG
  unfold S4 at hV
  by_cases hrc0 : rc = 0
  ·subst hrc0
   clear HNO
   have I := HG.out
   have hs1 := slg_S4 I.sl I.bG x1 x4 x7 x2 x3 x5 x6 x8 x9 (bs : Int)
   have BG2 := I.bG.set4 (.slice x1 x2 x3) (.slice x4 x5 x6) (.int .u64 (bs : Int)) (.slice x7 x8 x9)
   have bW := S4.below (B := w.heap.size) (b := nG) I.bl (by have := I.ne; omega) (.slice x1 x2 x3) (.slice x4 x5 x6) (.int .u64 (bs : Int)) (.slice x7 x8 x9)
   have BRy : B6 (S4 V nG (.slice x1 x2 x3) (.slice x4 x5 x6) (.int .u64 (bs : Int)) (.slice x7 x8 x9)) nR 32 (.slice none 0 0) (.slice none 0 0) (.int .u64 0) (.slice none 0 0) (.int .u32 0) (.int .u32 0) := (S4.other V nG nR _ _ _ _ (by have := I.ne; omega)).trans I.bR
   obtain ⟨c0, c1, c2, c3, c4, c5⟩ := I.bG.cells
   obtain ⟨e0, e1, e2, e3, e4, e5⟩ := I.bG.frees
   obtain ⟨g0, g1, g2, g3⟩ := I.bg.cells
   obtain ⟨W2, hW2⟩ : ∃ z, S4 V nG (.slice x1 x2 x3) (.slice x4 x5 x6) (.int .u64 (bs : Int)) (.slice x7 x8 x9) = z := ⟨_, rfl⟩
   rw [hW2] at hs1 BG2 bW BRy
   unfold S4 at hW2
   obtain ⟨d0, d1, d2, d3, d4, d5⟩ := BG2.cells
   clear BG2 I HG
   obtain ⟨q0, q1, q2, q3, q4, q5⟩ := BRy.cells
   obtain ⟨f0, f1, f2, f3, f4, f5⟩ := BRy.frees
   have HE' : Hid _ := BRy.set6 (.slice x1 x2 x3) (.slice x4 x5 x6) (.int .u64 (bs : Int)) (.slice x7 x8 x9) (.int .u32 (st : Int)) (.int .u32 (en : Int))
   have HS' : Hid _ := slg_S6 hs1 BRy x1 x4 x7 x2 x3 x5 x6 x8 x9 (bs : Int) (st : Int) (en : Int)
   have HW' : Hid _ := S6.below (B := w.heap.size) (b := nR) bW HNR.out (.slice x1 x2 x3) (.slice x4 x5 x6) (.int .u64 (bs : Int)) (.slice x7 x8 x9) (.int .u32 (st : Int)) (.int .u32 (en : Int))
   clear BRy hs1 bW
   go_wp2
   obtain ⟨u0, u1, u2, u3, u4, u5⟩ := B6.cells HE'.out
   unfold S6 S4 at u0 u1 u2 u3 u4 u5
   refine bodyPost_ret (v := .tuple #[.agg #[.slice x1 x2 x3, .slice x4 x5 x6, .int .u64 (bs : Int), .slice x7 x8 x9, .int .u32 (st : Int), .int .u32 (en : Int)], .int .i64 0]) ?_ rfl ⟨x1, x2, x3, x4, x5, x6, x7, x8, x9, rfl, HS'.out, HW'.out⟩
   rw [results_cell_tmp rfl]; simp [go_sem, u0, u1, u2, u3, u4, u5]
  ·obtain ⟨rfl, rfl, rfl⟩ := HNO.out hrc0
   clear HNO
   have I := HG.out
   have hs1 := I.os
   have BRy := I.bR
   have bW := I.bl
   obtain ⟨c0, c1, c2, c3, c4, c5⟩ := I.bG.cells
   have r1 : (rc == 0) = false := by rw [beq_eq_false_iff_ne]; exact hrc0
   have r2 : (rc != 0) = true := by simp [hrc0]
   clear I HG hrc0
   obtain ⟨q0, q1, q2, q3, q4, q5⟩ := BRy.cells
   obtain ⟨f0, f1, f2, f3, f4, f5⟩ := BRy.frees
   have HE' : Hid _ := BRy.set6 (.slice am nm pm) (.slice ac nc pc) (.int .u64 (bs : Int)) (.slice ap np pp) (.int .u32 (st : Int)) (.int .u32 (en : Int))
   have HS' : Hid _ := slg_S6 hs1 BRy am ac ap nm pm nc pc np pp (bs : Int) (st : Int) (en : Int)
   have HW' : Hid _ := S6.below (B := w.heap.size) (b := nR) bW HNR.out (.slice am nm pm) (.slice ac nc pc) (.int .u64 (bs : Int)) (.slice ap np pp) (.int .u32 (st : Int)) (.int .u32 (en : Int))
   clear BRy hs1 bW
   go_wp2
   obtain ⟨u0, u1, u2, u3, u4, u5⟩ := B6.cells HE'.out
   unfold S6 S4 at u0 u1 u2 u3 u4 u5
   refine bodyPost_ret (v := .tuple #[.agg #[.slice am nm pm, .slice ac nc pc, .int .u64 (bs : Int), .slice ap np pp, .int .u32 (st : Int), .int .u32 (en : Int)], .int .i64 rc]) ?_ rfl ⟨am, nm, pm, ac, nc, pc, ap, np, pp, rfl, HS'.out, HW'.out⟩
   rw [results_cell_tmp rfl]; simp [go_sem, u0, u1, u2, u3, u4, u5]
set_option maxHeartbeats 4000000 in
theorem rmprotect16 (vm vc vp : Value) (bs st en a n : Nat) (prot : Int) (ms cs ps : List (Nat × Int)) (w : World) (hsl : SlG w vm vc vp ms cs ps) (hrc : ∀ y ∈ cs, y.1 < 18446744073709551616) (hw : Words cs) (hf : FitG ms cs ps bs) (ha : a < 4294967296) (hn : n < 4294967296) :
  Calls Tryz.prog 16 #[.agg #[vm, vc, .int .u64 (bs : Int), vp, .int .u32 (st : Int), .int .u32 (en : Int)], .int .u32 (a : Int), .int .u32 (n : Int), .int .i64 prot] w (STold (mprR ms cs ps a n prot) bs st en w) := by
 obtain ⟨am, nm, pm, ac, nc, pc, ap, np, pp, rfl, rfl, rfl⟩ := hsl.shape
 obtain ⟨Xa, X, nR, hXa, hX, hnR, BG, BR, hb, l1, l2⟩ := new2S w (.slice am nm pm) (.slice ac nc pc) (.int .u64 (bs : Int)) (.slice ap np pp) (.int .u32 (st : Int)) (.int .u32 (en : Int))
 obtain ⟨nG, hnG⟩ : ∃ z, w.heap.size = z := ⟨_, rfl⟩
 rw [hnG] at BG l1
 obtain ⟨c0, c1, c2, c3, c4, c5⟩ := BG.cells
 have HNE : Hid (w.heap.size = nG ∧ nG < nR ∧ nR < X.heap.size) := ⟨hnG, l1, l2⟩
 have HNR : Hid (w.heap.size ≤ nR) := by have := HNE.out; show _ ≤ _; omega
 obtain ⟨fi, hfi⟩ : ∃ z, z = a / 4096 := ⟨_, rfl⟩
 obtain ⟨pg, hpg⟩ : ∃ z, z = pgN n := ⟨_, rfl⟩
 have hpl : pg ≤ 1048576 := by rw [hpg, pgN]; omega
 have hfl : fi < 1048576 := by omega
 obtain ⟨r, hr⟩ : ∃ z, z = a % 4096 := ⟨_, rfl⟩
 have x1' : (a : Int) % 4096 = (r : Int) := by omega
 have x1'' : (a : Int).tmod 4096 = (r : Int) := by rw [Int.tmod_eq_emod_of_nonneg (by omega)]; omega
 have w1' : (a : Int) / 4096 = (fi : Int) := by omega
 have w2' : (a : Int).tdiv 4096 = (fi : Int) := by rw [Int.tdiv_eq_ediv_of_nonneg (by omega)]; omega
 obtain ⟨lf, hlf⟩ : ∃ z, z = 1048576 - fi := ⟨_, rfl⟩
 have w3' : IntKind.u32.wrap (1048576 - (fi : Int)) = (lf : Int) := by rw [IntKind.wrap_u32]; omega
 have w4' : 1048576 - (fi : Int) = (lf : Int) := by omega
 have w5' : (fi : Int) % 4294967296 = (fi : Int) := by omega
 have K20 : Hid (∀ w', Calls Tryz.prog 20 #[.int .u32 (n : Int)] w' fun e w'' => e = .returned (.int .u32 (pg : Int)) ∧ w'' = w') := fun w' => by rw [hpg]; exact count20 n w' hn
 have w6' : IntKind.u32.wrap (fi : Int) = (fi : Int) := by rw [IntKind.wrap_u32]; omega
 have KC : Hid (∀ w', Below X.heap.size X w' → Calls Tryz.prog 36 #[.agg #[.slice am nm pm, .slice ac nc pc, .int .u64 (bs : Int), .slice ap np pp], .int .u32 (fi : Int), .int .u32 (pg : Int), .int .i64 prot] w' (GTold (protR ms cs ps fi pg prot) bs w')) := fun w' hb' => told23 _ _ _ ms cs ps bs fi pg prot w' ((hsl.keep hb).keep hb') hrc hw (by omega) (by omega) hf
 obtain ⟨R, hR⟩ : ∃ z, z = mprR ms cs ps a n prot := ⟨_, rfl⟩
 rw [← hR]
 have HR0 : Hid (R = if r ≠ 0 ∨ protOk prot = false then (22, ms, cs, ps) else if n = 0 then (0, ms, cs, ps) else if 1048576 < fi + pg then (12, ms, cs, ps) else protR ms cs ps fi pg prot) := by show _ = _; rw [hR, mprR, ← hfi, ← hpg, ← hr]
 have HSX : Hid (SlG X (.slice am nm pm) (.slice ac nc pc) (.slice ap np pp) ms cs ps) := hsl.keep hb
 clear hR hpg hsl hrc hw hf
 by_cases h1 : r = 0
 case neg =>
  have HR : Hid (R = (22, ms, cs, ps)) := by have h := HR0.out; rw [if_pos (Or.inl h1)] at h; exact h
  have h01 : ((r : Int) != 0) = true := by simp; omega
  have h02 : ((r : Int) = 0) = False := by simp; omega
  have h03 : (r = 0) = False := by simp [h1]
  clear h1 HR0 KC hr hfi hlf
  have hs1 := HSX.out
  obtain ⟨x1, hx1⟩ : ∃ z, z = am := ⟨_, rfl⟩
  obtain ⟨x2, hx2⟩ : ∃ z, z = nm := ⟨_, rfl⟩
  obtain ⟨x3, hx3⟩ : ∃ z, z = pm := ⟨_, rfl⟩
  obtain ⟨x4, hx4⟩ : ∃ z, z = ac := ⟨_, rfl⟩
  obtain ⟨x5, hx5⟩ : ∃ z, z = nc := ⟨_, rfl⟩
  obtain ⟨x6, hx6⟩ : ∃ z, z = pc := ⟨_, rfl⟩
  obtain ⟨x7, hx7⟩ : ∃ z, z = ap := ⟨_, rfl⟩
  obtain ⟨x8, hx8⟩ : ∃ z, z = np := ⟨_, rfl⟩
  obtain ⟨x9, hx9⟩ : ∃ z, z = pp := ⟨_, rfl⟩
  subst hx1 hx2 hx3 hx4 hx5 hx6 hx7 hx8 hx9
  have BRy := BR
  have bW := hb
  clear BR BG hb HSX
  go_enter Tryz.func16, Tryz.ntmps16
  obtain ⟨q0, q1, q2, q3, q4, q5⟩ := BRy.cells
  obtain ⟨f0, f1, f2, f3, f4, f5⟩ := BRy.frees
  have HE' : Hid _ := BRy.set6 (.slice x1 x2 x3) (.slice x4 x5 x6) (.int .u64 (bs : Int)) (.slice x7 x8 x9) (.int .u32 (st : Int)) (.int .u32 (en : Int))
  have HS' : Hid _ := slg_S6 hs1 BRy x1 x4 x7 x2 x3 x5 x6 x8 x9 (bs : Int) (st : Int) (en : Int)
  have HW' : Hid _ := S6.below (B := w.heap.size) (b := nR) bW HNR.out (.slice x1 x2 x3) (.slice x4 x5 x6) (.int .u64 (bs : Int)) (.slice x7 x8 x9) (.int .u32 (st : Int)) (.int .u32 (en : Int))
  clear BRy hs1 bW
  go_wp2
  obtain ⟨u0, u1, u2, u3, u4, u5⟩ := B6.cells HE'.out
  unfold S6 S4 at u0 u1 u2 u3 u4 u5
  refine bodyPost_ret (v := .tuple #[.agg #[.slice x1 x2 x3, .slice x4 x5 x6, .int .u64 (bs : Int), .slice x7 x8 x9, .int .u32 (st : Int), .int .u32 (en : Int)], .int .i64 22]) ?_ rfl (by rw [HR.out]; exact ⟨x1, x2, x3, x4, x5, x6, x7, x8, x9, rfl, HS'.out, HW'.out⟩)
  rw [results_cell_tmp rfl]; simp [go_sem, u0, u1, u2, u3, u4, u5]
 subst h1
 by_cases hp0 : 0 ≤ prot
 case neg =>
  have hpo : protOk prot = false := decide_eq_false (by omega)
  have HR : Hid (R = (22, ms, cs, ps)) := by have h := HR0.out; rw [if_pos (Or.inr hpo)] at h; exact h
  have hp0' : prot < 0 := by omega
  clear HR0 KC hr hfi hlf hp0 hpo
  have hs1 := HSX.out
  obtain ⟨x1, hx1⟩ : ∃ z, z = am := ⟨_, rfl⟩
  obtain ⟨x2, hx2⟩ : ∃ z, z = nm := ⟨_, rfl⟩
  obtain ⟨x3, hx3⟩ : ∃ z, z = pm := ⟨_, rfl⟩
  obtain ⟨x4, hx4⟩ : ∃ z, z = ac := ⟨_, rfl⟩
  obtain ⟨x5, hx5⟩ : ∃ z, z = nc := ⟨_, rfl⟩
  obtain ⟨x6, hx6⟩ : ∃ z, z = pc := ⟨_, rfl⟩
  obtain ⟨x7, hx7⟩ : ∃ z, z = ap := ⟨_, rfl⟩
  obtain ⟨x8, hx8⟩ : ∃ z, z = np := ⟨_, rfl⟩
  obtain ⟨x9, hx9⟩ : ∃ z, z = pp := ⟨_, rfl⟩
  subst hx1 hx2 hx3 hx4 hx5 hx6 hx7 hx8 hx9
  have BRy := BR
  have bW := hb
  clear BR BG hb HSX
  go_enter Tryz.func16, Tryz.ntmps16
  obtain ⟨q0, q1, q2, q3, q4, q5⟩ := BRy.cells
  obtain ⟨f0, f1, f2, f3, f4, f5⟩ := BRy.frees
  have HE' : Hid _ := BRy.set6 (.slice x1 x2 x3) (.slice x4 x5 x6) (.int .u64 (bs : Int)) (.slice x7 x8 x9) (.int .u32 (st : Int)) (.int .u32 (en : Int))
  have HS' : Hid _ := slg_S6 hs1 BRy x1 x4 x7 x2 x3 x5 x6 x8 x9 (bs : Int) (st : Int) (en : Int)
  have HW' : Hid _ := S6.below (B := w.heap.size) (b := nR) bW HNR.out (.slice x1 x2 x3) (.slice x4 x5 x6) (.int .u64 (bs : Int)) (.slice x7 x8 x9) (.int .u32 (st : Int)) (.int .u32 (en : Int))
  clear BRy hs1 bW
  go_wp2
  obtain ⟨u0, u1, u2, u3, u4, u5⟩ := B6.cells HE'.out
  unfold S6 S4 at u0 u1 u2 u3 u4 u5
  refine bodyPost_ret (v := .tuple #[.agg #[.slice x1 x2 x3, .slice x4 x5 x6, .int .u64 (bs : Int), .slice x7 x8 x9, .int .u32 (st : Int), .int .u32 (en : Int)], .int .i64 22]) ?_ rfl (by rw [HR.out]; exact ⟨x1, x2, x3, x4, x5, x6, x7, x8, x9, rfl, HS'.out, HW'.out⟩)
  rw [results_cell_tmp rfl]; simp [go_sem, u0, u1, u2, u3, u4, u5]
 have hp0' : decide (prot < 0) = false := decide_eq_false (by omega)
 by_cases hp7 : prot ≤ 7
 case neg =>
  have hpo : protOk prot = false := decide_eq_false (by omega)
  have HR : Hid (R = (22, ms, cs, ps)) := by have h := HR0.out; rw [if_pos (Or.inr hpo)] at h; exact h
  have hp7' : 7 < prot := by omega
  clear HR0 KC hr hfi hlf hp7 hpo
  have hs1 := HSX.out
  obtain ⟨x1, hx1⟩ : ∃ z, z = am := ⟨_, rfl⟩
  obtain ⟨x2, hx2⟩ : ∃ z, z = nm := ⟨_, rfl⟩
  obtain ⟨x3, hx3⟩ : ∃ z, z = pm := ⟨_, rfl⟩
  obtain ⟨x4, hx4⟩ : ∃ z, z = ac := ⟨_, rfl⟩
  obtain ⟨x5, hx5⟩ : ∃ z, z = nc := ⟨_, rfl⟩
  obtain ⟨x6, hx6⟩ : ∃ z, z = pc := ⟨_, rfl⟩
  obtain ⟨x7, hx7⟩ : ∃ z, z = ap := ⟨_, rfl⟩
  obtain ⟨x8, hx8⟩ : ∃ z, z = np := ⟨_, rfl⟩
  obtain ⟨x9, hx9⟩ : ∃ z, z = pp := ⟨_, rfl⟩
  subst hx1 hx2 hx3 hx4 hx5 hx6 hx7 hx8 hx9
  have BRy := BR
  have bW := hb
  clear BR BG hb HSX
  go_enter Tryz.func16, Tryz.ntmps16
  obtain ⟨q0, q1, q2, q3, q4, q5⟩ := BRy.cells
  obtain ⟨f0, f1, f2, f3, f4, f5⟩ := BRy.frees
  have HE' : Hid _ := BRy.set6 (.slice x1 x2 x3) (.slice x4 x5 x6) (.int .u64 (bs : Int)) (.slice x7 x8 x9) (.int .u32 (st : Int)) (.int .u32 (en : Int))
  have HS' : Hid _ := slg_S6 hs1 BRy x1 x4 x7 x2 x3 x5 x6 x8 x9 (bs : Int) (st : Int) (en : Int)
  have HW' : Hid _ := S6.below (B := w.heap.size) (b := nR) bW HNR.out (.slice x1 x2 x3) (.slice x4 x5 x6) (.int .u64 (bs : Int)) (.slice x7 x8 x9) (.int .u32 (st : Int)) (.int .u32 (en : Int))
  clear BRy hs1 bW
  go_wp2
  obtain ⟨u0, u1, u2, u3, u4, u5⟩ := B6.cells HE'.out
  unfold S6 S4 at u0 u1 u2 u3 u4 u5
  refine bodyPost_ret (v := .tuple #[.agg #[.slice x1 x2 x3, .slice x4 x5 x6, .int .u64 (bs : Int), .slice x7 x8 x9, .int .u32 (st : Int), .int .u32 (en : Int)], .int .i64 22]) ?_ rfl (by rw [HR.out]; exact ⟨x1, x2, x3, x4, x5, x6, x7, x8, x9, rfl, HS'.out, HW'.out⟩)
  rw [results_cell_tmp rfl]; simp [go_sem, u0, u1, u2, u3, u4, u5]
 have hp7' : decide (7 < prot) = false := decide_eq_false (by omega)
 have HPO : Hid (protOk prot = true) := decide_eq_true ⟨hp0, hp7⟩
 have HR0 : Hid (R = if n = 0 then (0, ms, cs, ps) else if 1048576 < fi + pg then (12, ms, cs, ps) else protR ms cs ps fi pg prot) := by have h := HR0.out; rw [if_neg (by rw [HPO.out]; simp)] at h; exact h
 by_cases h2 : n = 0
 ·have HR : Hid (R = (0, ms, cs, ps)) := by have h := HR0.out; rw [if_pos h2] at h; exact h
  clear HR0 KC hr hfi hlf
  subst h2
  have hs1 := HSX.out
  obtain ⟨x1, hx1⟩ : ∃ z, z = am := ⟨_, rfl⟩
  obtain ⟨x2, hx2⟩ : ∃ z, z = nm := ⟨_, rfl⟩
  obtain ⟨x3, hx3⟩ : ∃ z, z = pm := ⟨_, rfl⟩
  obtain ⟨x4, hx4⟩ : ∃ z, z = ac := ⟨_, rfl⟩
  obtain ⟨x5, hx5⟩ : ∃ z, z = nc := ⟨_, rfl⟩
  obtain ⟨x6, hx6⟩ : ∃ z, z = pc := ⟨_, rfl⟩
  obtain ⟨x7, hx7⟩ : ∃ z, z = ap := ⟨_, rfl⟩
  obtain ⟨x8, hx8⟩ : ∃ z, z = np := ⟨_, rfl⟩
  obtain ⟨x9, hx9⟩ : ∃ z, z = pp := ⟨_, rfl⟩
  subst hx1 hx2 hx3 hx4 hx5 hx6 hx7 hx8 hx9
  have BRy := BR
  have bW := hb
  clear BR BG hb HSX
  go_enter Tryz.func16, Tryz.ntmps16
  obtain ⟨q0, q1, q2, q3, q4, q5⟩ := BRy.cells
  obtain ⟨f0, f1, f2, f3, f4, f5⟩ := BRy.frees
  have HE' : Hid _ := BRy.set6 (.slice x1 x2 x3) (.slice x4 x5 x6) (.int .u64 (bs : Int)) (.slice x7 x8 x9) (.int .u32 (st : Int)) (.int .u32 (en : Int))
  have HS' : Hid _ := slg_S6 hs1 BRy x1 x4 x7 x2 x3 x5 x6 x8 x9 (bs : Int) (st : Int) (en : Int)
  have HW' : Hid _ := S6.below (B := w.heap.size) (b := nR) bW HNR.out (.slice x1 x2 x3) (.slice x4 x5 x6) (.int .u64 (bs : Int)) (.slice x7 x8 x9) (.int .u32 (st : Int)) (.int .u32 (en : Int))
  clear BRy hs1 bW
  go_wp2
  obtain ⟨u0, u1, u2, u3, u4, u5⟩ := B6.cells HE'.out
  unfold S6 S4 at u0 u1 u2 u3 u4 u5
  refine bodyPost_ret (v := .tuple #[.agg #[.slice x1 x2 x3, .slice x4 x5 x6, .int .u64 (bs : Int), .slice x7 x8 x9, .int .u32 (st : Int), .int .u32 (en : Int)], .int .i64 0]) ?_ rfl (by rw [HR.out]; exact ⟨x1, x2, x3, x4, x5, x6, x7, x8, x9, rfl, HS'.out, HW'.out⟩)
  rw [results_cell_tmp rfl]; simp [go_sem, u0, u1, u2, u3, u4, u5]
 have h2' : ((n : Int) == 0) = false := by simp; omega
 have h2'' : (n = 0) = False := by simp [h2]
 have h2a : ((n : Int) = 0) = False := by simp [h2]
 by_cases h3 : 1048576 < fi + pg
 ·have HR : Hid (R = (12, ms, cs, ps)) := by have h := HR0.out; rw [if_neg h2, if_pos h3] at h; exact h
  have h3' : (lf : Int) < (pg : Int) := by omega
  clear HR0 KC h2 hr hfi hlf h3
  have hs1 := HSX.out
  obtain ⟨x1, hx1⟩ : ∃ z, z = am := ⟨_, rfl⟩
  obtain ⟨x2, hx2⟩ : ∃ z, z = nm := ⟨_, rfl⟩
  obtain ⟨x3, hx3⟩ : ∃ z, z = pm := ⟨_, rfl⟩
  obtain ⟨x4, hx4⟩ : ∃ z, z = ac := ⟨_, rfl⟩
  obtain ⟨x5, hx5⟩ : ∃ z, z = nc := ⟨_, rfl⟩
  obtain ⟨x6, hx6⟩ : ∃ z, z = pc := ⟨_, rfl⟩
  obtain ⟨x7, hx7⟩ : ∃ z, z = ap := ⟨_, rfl⟩
  obtain ⟨x8, hx8⟩ : ∃ z, z = np := ⟨_, rfl⟩
  obtain ⟨x9, hx9⟩ : ∃ z, z = pp := ⟨_, rfl⟩
  subst hx1 hx2 hx3 hx4 hx5 hx6 hx7 hx8 hx9
  have BRy := BR
  have bW := hb
  clear BR BG hb HSX
  go_enter Tryz.func16, Tryz.ntmps16
  go_wp2_with fail
  refine (K20.out _).mono ?_
  rintro e w9 ⟨rfl, rfl⟩
  obtain ⟨q0, q1, q2, q3, q4, q5⟩ := BRy.cells
  obtain ⟨f0, f1, f2, f3, f4, f5⟩ := BRy.frees
  have HE' : Hid _ := BRy.set6 (.slice x1 x2 x3) (.slice x4 x5 x6) (.int .u64 (bs : Int)) (.slice x7 x8 x9) (.int .u32 (st : Int)) (.int .u32 (en : Int))
  have HS' : Hid _ := slg_S6 hs1 BRy x1 x4 x7 x2 x3 x5 x6 x8 x9 (bs : Int) (st : Int) (en : Int)
  have HW' : Hid _ := S6.below (B := w.heap.size) (b := nR) bW HNR.out (.slice x1 x2 x3) (.slice x4 x5 x6) (.int .u64 (bs : Int)) (.slice x7 x8 x9) (.int .u32 (st : Int)) (.int .u32 (en : Int))
  clear BRy hs1 bW
  go_wp2
  obtain ⟨u0, u1, u2, u3, u4, u5⟩ := B6.cells HE'.out
  unfold S6 S4 at u0 u1 u2 u3 u4 u5
  refine bodyPost_ret (v := .tuple #[.agg #[.slice x1 x2 x3, .slice x4 x5 x6, .int .u64 (bs : Int), .slice x7 x8 x9, .int .u32 (st : Int), .int .u32 (en : Int)], .int .i64 12]) ?_ rfl (by rw [HR.out]; exact ⟨x1, x2, x3, x4, x5, x6, x7, x8, x9, rfl, HS'.out, HW'.out⟩)
  rw [results_cell_tmp rfl]; simp [go_sem, u0, u1, u2, u3, u4, u5]
 have HR0 : Hid (R = protR ms cs ps fi pg prot) := by have h := HR0.out; rw [if_neg h2, if_neg h3] at h; exact h
 have h3' : decide ((lf : Int) < (pg : Int)) = false := decide_eq_false (by omega)
 have h3'' : (lf < pg) = False := eq_false (by omega)
 rw [← HR0.out] at KC
 have HNO : Hid (R.1 ≠ 0 → R.2.1 = ms ∧ R.2.2.1 = cs ∧ R.2.2.2 = ps) := fun h => by
  have e := HR0.out
  rw [e] at h ⊢
  have e2 := prot_no h
  rw [e2]; exact ⟨rfl, rfl, rfl⟩
 obtain ⟨rc, rms, rcs, rps⟩ := R
 have HNO : Hid (rc ≠ 0 → rms = ms ∧ rcs = cs ∧ rps = ps) := HNO.out
 clear h2 h3 HR0 hr hfi hlf
 go_enter Tryz.func16, Tryz.ntmps16
 go_wp2_with fail
 refine (K20.out _).mono ?_
 rintro e w9 ⟨rfl, rfl⟩
 go_wp2
 refine E2.wp_region_late (R := Ext) [⟨35, fun v _ => v = .pointer (some ⟨nG, 0, none⟩), fun _ _ _ _ h => h⟩, ⟨36, fun v _ => v = .agg #[.slice am nm pm, .slice ac nc pc, .int .u64 (bs : Int), .slice ap np pp], fun _ _ _ _ h => h⟩, ⟨37, fun v _ => v = .int .u32 (a : Int), fun _ _ _ _ h => h⟩, ⟨38, fun v _ => v = .int .u32 (fi : Int), fun _ _ _ _ h => h⟩, ⟨39, fun v _ => v = .int .u32 (n : Int), fun _ _ _ _ h => h⟩, ⟨40, fun v _ => v = .int .u32 (pg : Int), fun _ _ _ _ h => h⟩, ⟨41, fun v _ => v = .int .i64 prot, fun _ _ _ _ h => h⟩, ⟨42, fun v w => GtT rc bs rms rcs rps v w, fun v w w' hb ⟨x1, x2, x3, x4, x5, x6, x7, x8, x9, e, h⟩ => ⟨x1, x2, x3, x4, x5, x6, x7, x8, x9, e, h.keep hb⟩⟩, ⟨34, fun v w => GtT rc bs rms rcs rps v w, fun v w w' hb ⟨x1, x2, x3, x4, x5, x6, x7, x8, x9, e, h⟩ => ⟨x1, x2, x3, x4, x5, x6, x7, x8, x9, e, h.keep hb⟩⟩, ⟨43, fun v w => FrG bs rms rcs rps v w, fun v w w' hb ⟨x1, x2, x3, x4, x5, x6, x7, x8, x9, e, h⟩ => ⟨x1, x2, x3, x4, x5, x6, x7, x8, x9, e, h.keep hb⟩⟩, ⟨44, fun v _ => v = .int .i64 rc, fun _ _ _ _ h => h⟩, ⟨10, fun v w => NewZ w9.heap.size v w, fun v w w' hb ⟨b, e, l, h⟩ => ⟨b, e, l, h.keep hb⟩⟩] _ 12 10 (by kernel_rfl) rfl (by kernel_rfl) (by decide) (by decide) (by kernel_rfl) (Below.drew (Below.refl _ _)) (fun _ _ _ h1 h2 => below_tr h1 h2) (fun QQ => ⟨?_, ?_, ?_, ?_, ?_, ?_, ?_, ?_, ?_, ?_, ?_, ?_, trivial⟩) (fun f wy hR hf A hA => ?_) (fun f wy hR hf A hA i hi hmi => ?_)
 ·intro A wx hR hout hdep K hK
  have h4 : A.tmps[4]?.getD undef = .pointer (some ⟨nG, 0, none⟩) := hout 4 (by kernel_rfl)
  refine if_yes (by kernel_rfl) ?_
  simp [go_sem, h4, w1', w2', w5', w6']
  exact hK.out _ _ (Below.refl _ _) rfl
 ·intro A wx hR hout hdep K hK
  have h35 : A.tmps[35]?.getD undef = .pointer (some ⟨nG, 0, none⟩) := hdep 35 (by kernel_rfl)
  refine if_yes (by kernel_rfl) ?_
  have c0 := keep_cell hR c0
  have c1 := keep_cell hR c1
  have c2 := keep_cell hR c2
  have c3 := keep_cell hR c3
  simp [go_sem, h35, c0, c1, c2, c3, w1', w2', w5', w6']
  exact hK.out _ _ (Below.refl _ _) rfl
 ·intro A wx hR hout hdep K hK
  have h1 : A.tmps[1]?.getD undef = .int .u32 (a : Int) := hout 1 (by kernel_rfl)
  refine if_yes (by kernel_rfl) ?_
  simp [go_sem, h1, w1', w2', w5', w6']
  exact hK.out _ _ (Below.refl _ _) rfl
 ·intro A wx hR hout hdep K hK
  have h37 : A.tmps[37]?.getD undef = .int .u32 (a : Int) := hdep 37 (by kernel_rfl)
  refine if_yes (by kernel_rfl) ?_
  simp [go_sem, h37, w1', w2', w5', w6']
  exact hK.out _ _ (Below.refl _ _) rfl
 ·intro A wx hR hout hdep K hK
  have h2 : A.tmps[2]?.getD undef = .int .u32 (n : Int) := hout 2 (by kernel_rfl)
  refine if_yes (by kernel_rfl) ?_
  simp [go_sem, h2, w1', w2', w5', w6']
  exact hK.out _ _ (Below.refl _ _) rfl
 ·intro A wx hR hout hdep K hK
  have h39 : A.tmps[39]?.getD undef = .int .u32 (n : Int) := hdep 39 (by kernel_rfl)
  refine if_yes (by kernel_rfl) ?_
  simp [go_sem, h39, w1', w2', w5', w6']
  refine (K20.out _).mono ?_
  rintro e wG ⟨rfl, rfl⟩
  exact hK.out _ _ (Below.refl _ _) rfl
 ·intro A wx hR hout hdep K hK
  have h3 : A.tmps[3]?.getD undef = .int .i64 prot := hout 3 (by kernel_rfl)
  refine if_yes (by kernel_rfl) ?_
  simp [go_sem, h3, w1', w2', w5', w6']
  exact hK.out _ _ (Below.refl _ _) rfl
 ·intro A wx hR hout hdep K hK
  have h36 : A.tmps[36]?.getD undef = .agg #[.slice am nm pm, .slice ac nc pc, .int .u64 (bs : Int), .slice ap np pp] := hdep 36 (by kernel_rfl)
  have h38 : A.tmps[38]?.getD undef = .int .u32 (fi : Int) := hdep 38 (by kernel_rfl)
  have h40 : A.tmps[40]?.getD undef = .int .u32 (pg : Int) := hdep 40 (by kernel_rfl)
  have h41 : A.tmps[41]?.getD undef = .int .i64 prot := hdep 41 (by kernel_rfl)
  refine if_yes (by kernel_rfl) ?_
  simp [go_sem, h36, h38, h40, h41, w1', w2', w5', w6']
  refine (KC.out _ hR).mono ?_
  rintro e wG ⟨x1, x2, x3, x4, x5, x6, x7, x8, x9, rfl, hoG, hbG⟩
  exact hK.out _ _ hbG ⟨x1, x2, x3, x4, x5, x6, x7, x8, x9, rfl, hoG⟩
 ·intro A wx hR hout hdep K hK
  have h42 := hdep 42 (by kernel_rfl)
  refine if_yes (by kernel_rfl) ?_
  obtain ⟨x1, x2, x3, x4, x5, x6, x7, x8, x9, e, o⟩ : GtT rc bs rms rcs rps _ wx := h42
  simp [go_sem, e]
  exact hK.out _ _ (Below.refl _ _) ⟨x1, x2, x3, x4, x5, x6, x7, x8, x9, rfl, o⟩
 ·intro A wx hR hout hdep K hK
  have h34 := hdep 34 (by kernel_rfl)
  refine if_yes (by kernel_rfl) ?_
  obtain ⟨x1, x2, x3, x4, x5, x6, x7, x8, x9, e, o⟩ : GtT rc bs rms rcs rps _ wx := h34
  simp [go_sem, e]
  exact hK.out _ _ (Below.refl _ _) ⟨x1, x2, x3, x4, x5, x6, x7, x8, x9, rfl, o⟩
 ·intro A wx hR hout hdep K hK
  have h34 := hdep 34 (by kernel_rfl)
  refine if_yes (by kernel_rfl) ?_
  obtain ⟨x1, x2, x3, x4, x5, x6, x7, x8, x9, e, o⟩ : GtT rc bs rms rcs rps _ wx := h34
  simp [go_sem, e]
  exact hK.out _ _ (Below.refl _ _) rfl
 ·intro A wx hR hout hdep K hK
  refine if_yes (by kernel_rfl) ?_
  simp [go_sem]
  exact hK.out _ _ ((Below.refl _ _).alloc (Nat.le_refl _) _) ⟨_, rfl, hR.size, B4.new _ _ _ _ _ _⟩
 focus
  obtain ⟨x1, x2, x3, x4, x5, x6, x7, x8, x9, e0, o0⟩ : FrG bs rms rcs rps (f 43) wy := hf 43 (by kernel_rfl)
  obtain ⟨b, e8, lb, B8⟩ : NewZ w9.heap.size (f 10) wy := hf 10 (by kernel_rfl)
  have e1 : f 44 = .int .i64 rc := hf 44 (by kernel_rfl)
  simp only [putSl, E2.putSl, List.take_succ_cons, List.take_zero, Act.put, List.setIfInBounds_toArray, List.set_cons_zero, List.set_cons_succ, e0, e8, e1] at hA
  subst hA
  obtain ⟨q0, q1, q2, q3⟩ := B8.cells
  obtain ⟨z0, z1, z2, z3⟩ := B8.frees
  refine wpAny_ready (rs := [12]) (by kernel_rfl) (by simp) ?_
  refine AllReady.cons rfl (fun K hK => ?_) AllReady.nil
  refine if_yes (by kernel_rfl) ?_
  simp [go_sem, q0, q1, q2, q3, z0, z1, z2, z3]
  refine hK _ _ ?_
  clear hK K
  refine wpAny_ready (rs := [13]) (by kernel_rfl) (by simp) ?_
  refine AllReady.cons rfl (fun K hK => ?_) AllReady.nil
  refine if_yes (by kernel_rfl) ?_
  simp [go_sem]
  refine hK _ _ ?_
  clear hK K
  refine wpAny_done (by kernel_rfl) ?_ _
  have HG : Hid (GoI w am ac ap nm pm nc pc np pp bs st en nG nR b x1 x4 x7 x2 x3 x5 x6 x8 x9 rms rcs rps ms cs ps (S4 wy b (.slice x1 x2 x3) (.slice x4 x5 x6) (.int .u64 (bs : Int)) (.slice x7 x8 x9))) := by
   have hN := HNE.out
   exact ⟨(BG.keep hR).o4 (by omega) _ _ _ _, (BR.keep hR).o4 (by omega) _ _ _ _, B8.S4 _ _ _ _, slg_4 o0 B8 x1 x4 x7 x2 x3 x5 x6 x8 x9 (bs : Int), HSX.out.keep (S4.below hR lb _ _ _ _), S4.below (below_tr hb hR) (by omega) _ _ _ _, by omega⟩
  clear B8 q0 q1 q2 q3 z0 z1 z2 z3 o0 hR BG BR hb c0 c1 c2 c3 c4 c5 HSX hnR hXa hX KC K20 x1' x1'' w1' w2' w3' w4' w5' w6' h2' h2'' h2a h3' h3'' hpl hfl hp0 hp0' hp7 hp7' HPO
 rotate_left
 focus
  have hi' : i = 10 ∨ i = 12 := by
   rw [show Region.ready .any _ _ = [10, 12] by kernel_rfl] at hi
   simpa using hi
  obtain rfl : i = 12 := by omega
  clear hi hi' hmi
  obtain ⟨x1, x2, x3, x4, x5, x6, x7, x8, x9, e0, o0⟩ : FrG bs rms rcs rps (f 43) wy := hf 43 (by kernel_rfl) (by simp)
  obtain ⟨b, e8, lb, B8⟩ : NewZ w9.heap.size (f 10) wy := hf 10 (by kernel_rfl) (by simp)
  obtain ⟨y1, y2, y3, y4, y5, y6, y7, y8, y9, e26, _⟩ : GtT rc bs rms rcs rps (f 34) wy := hf 34 (by kernel_rfl) (by simp)
  simp only [putSl, E2.putSl, List.take_succ_cons, List.take_zero, Act.put, List.setIfInBounds_toArray, List.set_cons_zero, List.set_cons_succ, e0, e8, e26] at hA
  subst hA
  obtain ⟨q0, q1, q2, q3⟩ := B8.cells
  obtain ⟨z0, z1, z2, z3⟩ := B8.frees
  refine (show AllReady _ _ _ _ 2 _ _ _ [12] from AllReady.cons rfl (fun K hK => ?_) AllReady.nil) 12 (by simp)
  refine if_yes (by kernel_rfl) ?_
  simp [go_sem, q0, q1, q2, q3, z0, z1, z2, z3]
  refine hK _ _ ?_
  clear hK K
  refine wpAny_ready (rs := [10]) (by kernel_rfl) (by simp) ?_
  refine AllReady.cons rfl (fun K hK => ?_) AllReady.nil
  refine if_yes (by kernel_rfl) ?_
  simp [go_sem]
  refine hK _ _ ?_
  clear hK K
  refine wpAny_ready (rs := [13]) (by kernel_rfl) (by simp) ?_
  refine AllReady.cons rfl (fun K hK => ?_) AllReady.nil
  refine if_yes (by kernel_rfl) ?_
  simp [go_sem]
  refine hK _ _ ?_
  clear hK K
  refine wpAny_done (by kernel_rfl) ?_ _
  have HG : Hid (GoI w am ac ap nm pm nc pc np pp bs st en nG nR b x1 x4 x7 x2 x3 x5 x6 x8 x9 rms rcs rps ms cs ps (S4 wy b (.slice x1 x2 x3) (.slice x4 x5 x6) (.int .u64 (bs : Int)) (.slice x7 x8 x9))) := by
   have hN := HNE.out
   exact ⟨(BG.keep hR).o4 (by omega) _ _ _ _, (BR.keep hR).o4 (by omega) _ _ _ _, B8.S4 _ _ _ _, slg_4 o0 B8 x1 x4 x7 x2 x3 x5 x6 x8 x9 (bs : Int), HSX.out.keep (S4.below hR lb _ _ _ _), S4.below (below_tr hb hR) (by omega) _ _ _ _, by omega⟩
  clear B8 q0 q1 q2 q3 z0 z1 z2 z3 o0 hR BG BR hb c0 c1 c2 c3 c4 c5 HSX hnR hXa hX KC K20 x1' x1'' w1' w2' w3' w4' w5' w6' h2' h2'' h2a h3' h3'' hpl hfl hp0 hp0' hp7 hp7' HPO
 all_goals
  obtain ⟨V, hV⟩ : ∃ z, S4 wy b (.slice x1 x2 x3) (.slice x4 x5 x6) (.int .u64 (bs : Int)) (.slice x7 x8 x9) = z := ⟨_, rfl⟩
  rw [hV] at HG
  unfold S4 at hV
  by_cases hrc0 : rc = 0
  ·subst hrc0
   clear HNO
   have I := HG.out
   have hs1 := slg_S4 I.sl I.bG x1 x4 x7 x2 x3 x5 x6 x8 x9 (bs : Int)
   have BG2 := I.bG.set4 (.slice x1 x2 x3) (.slice x4 x5 x6) (.int .u64 (bs : Int)) (.slice x7 x8 x9)
   have bW := S4.below (B := w.heap.size) (b := nG) I.bl (by have := I.ne; omega) (.slice x1 x2 x3) (.slice x4 x5 x6) (.int .u64 (bs : Int)) (.slice x7 x8 x9)
   have BRy : B6 (S4 V nG (.slice x1 x2 x3) (.slice x4 x5 x6) (.int .u64 (bs : Int)) (.slice x7 x8 x9)) nR 32 (.slice none 0 0) (.slice none 0 0) (.int .u64 0) (.slice none 0 0) (.int .u32 0) (.int .u32 0) := (S4.other V nG nR _ _ _ _ (by have := I.ne; omega)).trans I.bR
   obtain ⟨c0, c1, c2, c3, c4, c5⟩ := I.bG.cells
   obtain ⟨e0, e1, e2, e3, e4, e5⟩ := I.bG.frees
   obtain ⟨g0, g1, g2, g3⟩ := I.bg.cells
   obtain ⟨W2, hW2⟩ : ∃ z, S4 V nG (.slice x1 x2 x3) (.slice x4 x5 x6) (.int .u64 (bs : Int)) (.slice x7 x8 x9) = z := ⟨_, rfl⟩
   rw [hW2] at hs1 BG2 bW BRy
   unfold S4 at hW2
   obtain ⟨d0, d1, d2, d3, d4, d5⟩ := BG2.cells
   clear BG2 I HG
   obtain ⟨q0, q1, q2, q3, q4, q5⟩ := BRy.cells
   obtain ⟨f0, f1, f2, f3, f4, f5⟩ := BRy.frees
   have HE' : Hid _ := BRy.set6 (.slice x1 x2 x3) (.slice x4 x5 x6) (.int .u64 (bs : Int)) (.slice x7 x8 x9) (.int .u32 (st : Int)) (.int .u32 (en : Int))
   have HS' : Hid _ := slg_S6 hs1 BRy x1 x4 x7 x2 x3 x5 x6 x8 x9 (bs : Int) (st : Int) (en : Int)
   have HW' : Hid _ := S6.below (B := w.heap.size) (b := nR) bW HNR.out (.slice x1 x2 x3) (.slice x4 x5 x6) (.int .u64 (bs : Int)) (.slice x7 x8 x9) (.int .u32 (st : Int)) (.int .u32 (en : Int))
   clear BRy hs1 bW
   go_wp2
   obtain ⟨u0, u1, u2, u3, u4, u5⟩ := B6.cells HE'.out
   unfold S6 S4 at u0 u1 u2 u3 u4 u5
   refine bodyPost_ret (v := .tuple #[.agg #[.slice x1 x2 x3, .slice x4 x5 x6, .int .u64 (bs : Int), .slice x7 x8 x9, .int .u32 (st : Int), .int .u32 (en : Int)], .int .i64 0]) ?_ rfl ⟨x1, x2, x3, x4, x5, x6, x7, x8, x9, rfl, HS'.out, HW'.out⟩
   rw [results_cell_tmp rfl]; simp [go_sem, u0, u1, u2, u3, u4, u5]
  ·obtain ⟨rfl, rfl, rfl⟩ := HNO.out hrc0
   clear HNO
   have I := HG.out
   have hs1 := I.os
   have BRy := I.bR
   have bW := I.bl
   obtain ⟨c0, c1, c2, c3, c4, c5⟩ := I.bG.cells
   have r1 : (rc == 0) = false := by rw [beq_eq_false_iff_ne]; exact hrc0
   have r2 : (rc != 0) = true := by simp [hrc0]
   clear I HG hrc0
   obtain ⟨q0, q1, q2, q3, q4, q5⟩ := BRy.cells
   obtain ⟨f0, f1, f2, f3, f4, f5⟩ := BRy.frees
   have HE' : Hid _ := BRy.set6 (.slice am nm pm) (.slice ac nc pc) (.int .u64 (bs : Int)) (.slice ap np pp) (.int .u32 (st : Int)) (.int .u32 (en : Int))
   have HS' : Hid _ := slg_S6 hs1 BRy am ac ap nm pm nc pc np pp (bs : Int) (st : Int) (en : Int)
   have HW' : Hid _ := S6.below (B := w.heap.size) (b := nR) bW HNR.out (.slice am nm pm) (.slice ac nc pc) (.int .u64 (bs : Int)) (.slice ap np pp) (.int .u32 (st : Int)) (.int .u32 (en : Int))
   clear BRy hs1 bW
   go_wp2
   obtain ⟨u0, u1, u2, u3, u4, u5⟩ := B6.cells HE'.out
   unfold S6 S4 at u0 u1 u2 u3 u4 u5
   refine bodyPost_ret (v := .tuple #[.agg #[.slice am nm pm, .slice ac nc pc, .int .u64 (bs : Int), .slice ap np pp, .int .u32 (st : Int), .int .u32 (en : Int)], .int .i64 rc]) ?_ rfl ⟨am, nm, pm, ac, nc, pc, ap, np, pp, rfl, HS'.out, HW'.out⟩
   rw [results_cell_tmp rfl]; simp [go_sem, u0, u1, u2, u3, u4, u5]
end Go.Proofs.YtkpmkgkfpikpfaaGreat
