/- What is proved here: spaces: fresh ones, bytes taken away, and what may be done with them. -/
import Derived.Test.YtkpmkgkfpikpfaaGreatSb
import Derived.Test.YtkpmkgkfpikpfaaGreatGf
import Derived.Test.YtkpmkgkfpikpfaaGreatGr3
import Derived.Test.YtkpmkgkfpikpfaaGreatEach
import Derived.Laws.ResultCell
namespace Go.Proofs.YtkpmkgkfpikpfaaGreat
open Go.RowKit
set_option linter.unusedVariables false
set_option linter.unusedSimpArgs false
set_option maxRecDepth 100000
def STold (R : GRes) (bs st en : Nat) (w : World) (e : Ending) (w' : World) : Prop := ∃ am nm pm ac nc pc ap np pp, e = .returned (.tuple #[.agg #[.slice am nm pm, .slice ac nc pc, .int .u64 (bs : Int), .slice ap np pp, .int .u32 (st : Int), .int .u32 (en : Int)], .int .i64 R.1]) ∧ SlG w' (.slice am nm pm) (.slice ac nc pc) (.slice ap np pp) R.2.1 R.2.2.1 R.2.2.2 ∧ Below w.heap.size w w'
theorem new2S (w : World) (y0 y1 y2 y3 y4 y5 : Value) : ∃ Xa X nR, w.alloc (.cells #[y0, y1, y2, y3, y4, y5] 32) = Xa ∧ Xa.alloc (.cells #[.slice none 0 0, .slice none 0 0, .int .u64 0, .slice none 0 0, .int .u32 0, .int .u32 0] 32) = X ∧ Xa.heap.size = nR ∧ B6 X w.heap.size 32 y0 y1 y2 y3 y4 y5 ∧ B6 X nR 32 (.slice none 0 0) (.slice none 0 0) (.int .u64 0) (.slice none 0 0) (.int .u32 0) (.int .u32 0) ∧ Below w.heap.size w X ∧ w.heap.size < nR ∧ nR < X.heap.size := by
 obtain ⟨Xa, hXa⟩ : ∃ z, w.alloc (.cells #[y0, y1, y2, y3, y4, y5] 32) = z := ⟨_, rfl⟩
 have h0 : B6 Xa w.heap.size 32 y0 y1 y2 y3 y4 y5 := by rw [← hXa]; exact B6.new w 32 _ _ _ _ _ _
 have b0 : Below w.heap.size w Xa := by rw [← hXa]; exact (Below.refl _ _).alloc (Nat.le_refl _) _
 obtain ⟨X, hX⟩ : ∃ z, Xa.alloc (.cells #[.slice none 0 0, .slice none 0 0, .int .u64 0, .slice none 0 0, .int .u32 0, .int .u32 0] 32) = z := ⟨_, rfl⟩
 have h1 : B6 X Xa.heap.size 32 (.slice none 0 0) (.slice none 0 0) (.int .u64 0) (.slice none 0 0) (.int .u32 0) (.int .u32 0) := by rw [← hX]; exact B6.new Xa 32 _ _ _ _ _ _
 have b1 : Below Xa.heap.size Xa X := by rw [← hX]; exact (Below.refl _ _).alloc (Nat.le_refl _) _
 exact ⟨Xa, X, _, hXa, hX, rfl, h0.keep b1, h1, below_tr b0 b1, h0.lt, h1.lt⟩
def FrG (bs : Nat) (ms cs ps : List (Nat × Int)) (v : Value) (w : World) : Prop := ∃ am nm pm ac nc pc ap np pp, v = .agg #[.slice am nm pm, .slice ac nc pc, .int .u64 (bs : Int), .slice ap np pp] ∧ SlG w (.slice am nm pm) (.slice ac nc pc) (.slice ap np pp) ms cs ps
def FrS (bs st en : Nat) (ms cs ps : List (Nat × Int)) (v : Value) (w : World) : Prop := ∃ am nm pm ac nc pc ap np pp, v = .agg #[.slice am nm pm, .slice ac nc pc, .int .u64 (bs : Int), .slice ap np pp, .int .u32 (st : Int), .int .u32 (en : Int)] ∧ SlG w (.slice am nm pm) (.slice ac nc pc) (.slice ap np pp) ms cs ps
set_option maxHeartbeats 2000000 in
theorem freshSpace26 (vm vc vp : Value) (bs st en : Nat) (ms cs ps : List (Nat × Int)) (w : World) (hsl : SlG w vm vc vp ms cs ps) (lm : ms.length ≤ 64) (lc : cs.length ≤ 65536) (lp : ps.length ≤ 256) :
  Calls Tryz.prog 26 #[.agg #[vm, vc, .int .u64 (bs : Int), vp, .int .u32 (st : Int), .int .u32 (en : Int)]] w fun e w' => ∃ v, e = .returned v ∧ FrS bs st en ms cs ps v w' ∧ Below w.heap.size w w' := by
 obtain ⟨am, nm, pm, ac, nc, pc, ap, np, pp, rfl, rfl, rfl⟩ := hsl.shape
 obtain ⟨Xa, X, nR, hXa, hX, hnR, BG, BR, hb, l1, l2⟩ := new2S w (.slice am nm pm) (.slice ac nc pc) (.int .u64 (bs : Int)) (.slice ap np pp) (.int .u32 (st : Int)) (.int .u32 (en : Int))
 obtain ⟨nG, hnG⟩ : ∃ z, w.heap.size = z := ⟨_, rfl⟩
 rw [hnG] at BG l1
 obtain ⟨c0, c1, c2, c3, c4, c5⟩ := BG.cells
 have HNE : Hid (w.heap.size = nG ∧ nG < nR ∧ nR < X.heap.size) := ⟨hnG, l1, l2⟩
 have KF : Hid (∀ w', Below X.heap.size X w' → Calls Tryz.prog 47 #[.agg #[.slice am nm pm, .slice ac nc pc, .int .u64 (bs : Int), .slice ap np pp]] w' fun e w'' => ∃ x1 x2 x3 x4 x5 x6 x7 x8 x9, e = .returned (.agg #[.slice x1 x2 x3, .slice x4 x5 x6, .int .u64 (bs : Int), .slice x7 x8 x9]) ∧ SlG w'' (.slice x1 x2 x3) (.slice x4 x5 x6) (.slice x7 x8 x9) ms cs ps ∧ Below w'.heap.size w' w'') := fun w' hb' => by
  have h := (hsl.keep hb).keep hb'
  refine (gfresh40 _ _ _ bs ms cs ps w' h.1 h.2.1 h.2.2 (by omega) (by omega) (by omega)).mono ?_
  rintro e w'' ⟨a1, a2, a3, a4, a5, a6, a7, a8, a9, rfl, ho, hb''⟩
  exact ⟨_, _, _, _, _, _, _, _, _, rfl, ho.sl, hb''⟩
 have HB : Hid (Below w.heap.size w X) := hb
 have HR0 : Hid (B6 X nR 32 (.slice none 0 0) (.slice none 0 0) (.int .u64 0) (.slice none 0 0) (.int .u32 0) (.int .u32 0)) := BR
 clear hsl hb BG BR
 go_enter Tryz.func26, Tryz.ntmps26
 go_wp2
 refine wp_region_slots_last (R := Ext) [⟨3, fun v _ => v = .pointer (some ⟨nG, 0, none⟩), fun _ _ _ _ h => h⟩, ⟨4, fun v _ => v = .agg #[.slice am nm pm, .slice ac nc pc, .int .u64 (bs : Int), .slice ap np pp], fun _ _ _ _ h => h⟩, ⟨5, fun v w => FrG bs ms cs ps v w, fun v w w' hb ⟨x1, x2, x3, x4, x5, x6, x7, x8, x9, e, h⟩ => ⟨x1, x2, x3, x4, x5, x6, x7, x8, x9, e, h.keep hb⟩⟩, ⟨6, fun v _ => v = .pointer (some ⟨nG, 4, none⟩), fun _ _ _ _ h => h⟩, ⟨7, fun v _ => v = .int .u32 (st : Int), fun _ _ _ _ h => h⟩, ⟨8, fun v _ => v = .pointer (some ⟨nG, 5, none⟩), fun _ _ _ _ h => h⟩, ⟨9, fun v _ => v = .int .u32 (en : Int), fun _ _ _ _ h => h⟩, ⟨10, fun v w => FrS bs st en ms cs ps v w, fun v w w' hb ⟨x1, x2, x3, x4, x5, x6, x7, x8, x9, e, h⟩ => ⟨x1, x2, x3, x4, x5, x6, x7, x8, x9, e, h.keep hb⟩⟩] _ 8 _ (by kernel_rfl) rfl (by kernel_rfl) rfl rfl rfl rfl (by kernel_rfl) (Below.drew (Below.refl _ _)) (fun _ _ _ h1 h2 => below_tr h1 h2) (fun QQ => ⟨?_, ?_, ?_, ?_, ?_, ?_, ?_, ?_, trivial⟩) (fun f wy hR hf A hA K hK => ?_)
 ·intro A wx hR hout hdep K hK
  have h1 : A.tmps[1]?.getD undef = .pointer (some ⟨nG, 0, none⟩) := hout 1 (by kernel_rfl)
  refine if_yes (by kernel_rfl) ?_
  simp [go_sem, h1]
  exact hK.out _ _ (Below.refl _ _) rfl
 ·intro A wx hR hout hdep K hK
  have h3 : A.tmps[3]?.getD undef = .pointer (some ⟨nG, 0, none⟩) := hdep 3 (by kernel_rfl)
  refine if_yes (by kernel_rfl) ?_
  have c0 := keep_cell hR c0
  have c1 := keep_cell hR c1
  have c2 := keep_cell hR c2
  have c3 := keep_cell hR c3
  have c4 := keep_cell hR c4
  have c5 := keep_cell hR c5
  simp [go_sem, h3, c0, c1, c2, c3, c4, c5]
  exact hK.out _ _ (Below.refl _ _) rfl
 ·intro A wx hR hout hdep K hK
  have h4 : A.tmps[4]?.getD undef = .agg #[.slice am nm pm, .slice ac nc pc, .int .u64 (bs : Int), .slice ap np pp] := hdep 4 (by kernel_rfl)
  refine if_yes (by kernel_rfl) ?_
  simp [go_sem, h4]
  refine (KF.out _ hR).mono ?_
  rintro e wG ⟨x1, x2, x3, x4, x5, x6, x7, x8, x9, rfl, hoG, hbG⟩
  exact hK.out _ _ hbG ⟨x1, x2, x3, x4, x5, x6, x7, x8, x9, rfl, hoG⟩
 ·intro A wx hR hout hdep K hK
  have h1 : A.tmps[1]?.getD undef = .pointer (some ⟨nG, 0, none⟩) := hout 1 (by kernel_rfl)
  refine if_yes (by kernel_rfl) ?_
  simp [go_sem, h1]
  exact hK.out _ _ (Below.refl _ _) rfl
 ·intro A wx hR hout hdep K hK
  have h6 : A.tmps[6]?.getD undef = .pointer (some ⟨nG, 4, none⟩) := hdep 6 (by kernel_rfl)
  refine if_yes (by kernel_rfl) ?_
  have c0 := keep_cell hR c0
  have c1 := keep_cell hR c1
  have c2 := keep_cell hR c2
  have c3 := keep_cell hR c3
  have c4 := keep_cell hR c4
  have c5 := keep_cell hR c5
  simp [go_sem, h6, c0, c1, c2, c3, c4, c5]
  exact hK.out _ _ (Below.refl _ _) rfl
 ·intro A wx hR hout hdep K hK
  have h1 : A.tmps[1]?.getD undef = .pointer (some ⟨nG, 0, none⟩) := hout 1 (by kernel_rfl)
  refine if_yes (by kernel_rfl) ?_
  simp [go_sem, h1]
  exact hK.out _ _ (Below.refl _ _) rfl
 ·intro A wx hR hout hdep K hK
  have h8 : A.tmps[8]?.getD undef = .pointer (some ⟨nG, 5, none⟩) := hdep 8 (by kernel_rfl)
  refine if_yes (by kernel_rfl) ?_
  have c0 := keep_cell hR c0
  have c1 := keep_cell hR c1
  have c2 := keep_cell hR c2
  have c3 := keep_cell hR c3
  have c4 := keep_cell hR c4
  have c5 := keep_cell hR c5
  simp [go_sem, h8, c0, c1, c2, c3, c4, c5]
  exact hK.out _ _ (Below.refl _ _) rfl
 ·intro A wx hR hout hdep K hK
  have h5 := hdep 5 (by kernel_rfl)
  have h7 : A.tmps[7]?.getD undef = .int .u32 (st : Int) := hdep 7 (by kernel_rfl)
  have h9 : A.tmps[9]?.getD undef = .int .u32 (en : Int) := hdep 9 (by kernel_rfl)
  refine if_yes (by kernel_rfl) ?_
  obtain ⟨x1, x2, x3, x4, x5, x6, x7, x8, x9, e, o⟩ : FrG bs ms cs ps _ wx := h5
  simp [go_sem, e, h7, h9]
  exact hK.out _ _ (Below.refl _ _) ⟨x1, x2, x3, x4, x5, x6, x7, x8, x9, rfl, o⟩
 obtain ⟨x1, x2, x3, x4, x5, x6, x7, x8, x9, e10, o10⟩ : FrS bs st en ms cs ps (f 10) wy := hf 10 (by kernel_rfl)
 simp only [putSl, List.take_succ_cons, List.take_zero, Act.put, List.setIfInBounds_toArray, List.set_cons_zero, List.set_cons_succ, e10] at hA
 subst hA
 have BRy := HR0.out.keep hR
 obtain ⟨q0, q1, q2, q3, q4, q5⟩ := BRy.cells
 obtain ⟨f0, f1, f2, f3, f4, f5⟩ := BRy.frees
 have HE := BRy.set6 (.slice x1 x2 x3) (.slice x4 x5 x6) (.int .u64 (bs : Int)) (.slice x7 x8 x9) (.int .u32 (st : Int)) (.int .u32 (en : Int))
 have HS := slg_S6 o10 BRy x1 x4 x7 x2 x3 x5 x6 x8 x9 (bs : Int) (st : Int) (en : Int)
 have HW := S6.below (B := w.heap.size) (b := nR) (below_tr HB.out hR) (by have := HNE.out; omega) (.slice x1 x2 x3) (.slice x4 x5 x6) (.int .u64 (bs : Int)) (.slice x7 x8 x9) (.int .u32 (st : Int)) (.int .u32 (en : Int))
 have HE' : Hid _ := HE
 have HS' : Hid _ := HS
 have HW' : Hid _ := HW
 clear HE HS HW BRy o10 hf hR KF
 go_simp
 refine hK.out _ _ ?_
 clear hK K
 go_wp2
 obtain ⟨u0, u1, u2, u3, u4, u5⟩ := (show B6 (S6 wy nR _ _ _ _ _ _) nR 32 _ _ _ _ _ _ from HE'.out).cells
 unfold S6 S4 at u0 u1 u2 u3 u4 u5
 refine bodyPost_ret (v := .agg #[.slice x1 x2 x3, .slice x4 x5 x6, .int .u64 (bs : Int), .slice x7 x8 x9, .int .u32 (st : Int), .int .u32 (en : Int)]) ?_ rfl ⟨_, rfl, ⟨x1, x2, x3, x4, x5, x6, x7, x8, x9, rfl, HS'.out⟩, HW'.out⟩
 rw [results_cell1 rfl]; simp [go_sem, u0, u1, u2, u3, u4, u5]
def munR (ms cs ps : List (Nat × Int)) (bs a n : Nat) : GRes := if a % 4096 ≠ 0 ∨ n = 0 ∨ 1048576 < a / 4096 + pgN n then (22, ms, cs, ps) else unmapR ms cs ps bs (a / 4096) (pgN n)
set_option maxHeartbeats 4000000 in
theorem munmap13 (vm vc vp : Value) (bs st en a n : Nat) (ms cs ps : List (Nat × Int)) (w : World) (hsl : SlG w vm vc vp ms cs ps) (hrc : ∀ y ∈ cs, y.1 < 18446744073709551616) (hw : Words cs) (hf : FitG ms cs ps bs) (ha : a < 4294967296) (hn : n < 4294967296) :
  Calls Tryz.prog 13 #[.agg #[vm, vc, .int .u64 (bs : Int), vp, .int .u32 (st : Int), .int .u32 (en : Int)], .int .u32 (a : Int), .int .u32 (n : Int)] w (STold (munR ms cs ps bs a n) bs st en w) := by
 obtain ⟨am, nm, pm, ac, nc, pc, ap, np, pp, rfl, rfl, rfl⟩ := hsl.shape
 obtain ⟨Xa, X, nR, hXa, hX, hnR, BG, BR, hb, l1, l2⟩ := new2S w (.slice am nm pm) (.slice ac nc pc) (.int .u64 (bs : Int)) (.slice ap np pp) (.int .u32 (st : Int)) (.int .u32 (en : Int))
 obtain ⟨nG, hnG⟩ : ∃ z, w.heap.size = z := ⟨_, rfl⟩
 rw [hnG] at BG l1
 obtain ⟨c0, c1, c2, c3, c4, c5⟩ := BG.cells
 have HNE : Hid (w.heap.size = nG ∧ nG < nR ∧ nR < X.heap.size) := ⟨hnG, l1, l2⟩
 have K26 := freshSpace26 (.slice am nm pm) (.slice ac nc pc) (.slice ap np pp) bs st en ms cs ps X (hsl.keep hb) hf.fq.1 hf.fq.2.1 hf.lp
 obtain ⟨fi, hfi⟩ : ∃ z, z = a / 4096 := ⟨_, rfl⟩
 obtain ⟨pg, hpg⟩ : ∃ z, z = pgN n := ⟨_, rfl⟩
 have hpl : pg ≤ 1048576 := by rw [hpg, pgN]; omega
 have hfl : fi < 1048576 := by omega
 have w1' : (a : Int) / 4096 = (fi : Int) := by omega
 have w2' : (a : Int).tdiv 4096 = (fi : Int) := by rw [Int.tdiv_eq_ediv_of_nonneg (by omega)]; omega
 have w3' : IntKind.u32.wrap ((fi : Int) + (pg : Int)) = ((fi + pg : Nat) : Int) := by rw [IntKind.wrap_u32]; omega
 have K27 : Hid (∀ w', Calls Tryz.prog 27 #[.int .u32 (n : Int)] w' fun e w'' => e = .returned (.int .u32 (pg : Int)) ∧ w'' = w') := fun w' => by rw [hpg]; exact pagesOf27 n w' hn
 have K23 : Hid (∀ w', Calls Tryz.prog 23 #[.int .u32 (a : Int)] w' fun e w'' => e = .returned (.bool (decide (a % 4096 = 0))) ∧ w'' = w') := fun w' => isPlace23 a w'
 have K33 := told20 (.slice am nm pm) (.slice ac nc pc) (.slice ap np pp) ms cs ps bs fi pg 0 X (hsl.keep hb) hrc hw (by omega) (by omega) hf
 obtain ⟨R, hR⟩ : ∃ z, z = munR ms cs ps bs a n := ⟨_, rfl⟩
 rw [← hR]
 have HR0 : Hid (R = if a % 4096 ≠ 0 ∨ n = 0 ∨ 1048576 < fi + pg then (22, ms, cs, ps) else unmapR ms cs ps bs fi pg) := by show _ = _; rw [hR, munR, ← hfi, ← hpg]
 clear hR hfi hpg hsl hrc hw hf
 by_cases h1 : a % 4096 = 0
 case neg =>
  have HR : Hid (R = (22, ms, cs, ps)) := by have h := HR0.out; rw [if_pos (Or.inl h1)] at h; exact h
  rw [show decide (a % 4096 = 0) = false from decide_eq_false h1] at K23
  clear h1 HR0 K33
  go_enter Tryz.func13, Tryz.ntmps13
  go_wp2_with fail
  refine (K27.out _).mono ?_
  rintro e w8 ⟨rfl, rfl⟩
  go_wp2_with fail
  refine (K23.out _).mono ?_
  rintro e w9 ⟨rfl, rfl⟩
  go_wp2_with fail
  refine K26.mono ?_
  rintro e w1 ⟨v, rfl, ⟨x1, x2, x3, x4, x5, x6, x7, x8, x9, rfl, hs1⟩, hb1⟩
  have BRy := BR.keep hb1
  have bW := below_tr hb hb1
  clear K26 BR BG hb
  obtain ⟨q0, q1, q2, q3, q4, q5⟩ := BRy.cells
  obtain ⟨f0, f1, f2, f3, f4, f5⟩ := BRy.frees
  have HE' : Hid _ := BRy.set6 (.slice x1 x2 x3) (.slice x4 x5 x6) (.int .u64 (bs : Int)) (.slice x7 x8 x9) (.int .u32 (st : Int)) (.int .u32 (en : Int))
  have HS' : Hid _ := slg_S6 hs1 BRy x1 x4 x7 x2 x3 x5 x6 x8 x9 (bs : Int) (st : Int) (en : Int)
  have HW' : Hid _ := S6.below (B := w.heap.size) (b := nR) bW (by have := HNE.out; omega) (.slice x1 x2 x3) (.slice x4 x5 x6) (.int .u64 (bs : Int)) (.slice x7 x8 x9) (.int .u32 (st : Int)) (.int .u32 (en : Int))
  clear BRy hs1 bW
  go_wp2
  obtain ⟨u0, u1, u2, u3, u4, u5⟩ := B6.cells HE'.out
  unfold S6 S4 at u0 u1 u2 u3 u4 u5
  refine bodyPost_ret (v := .tuple #[.agg #[.slice x1 x2 x3, .slice x4 x5 x6, .int .u64 (bs : Int), .slice x7 x8 x9, .int .u32 (st : Int), .int .u32 (en : Int)], .int .i64 22]) ?_ rfl (by rw [HR.out]; exact ⟨x1, x2, x3, x4, x5, x6, x7, x8, x9, rfl, HS'.out, HW'.out⟩)
  rw [results_cell_tmp rfl]; simp [go_sem, u0, u1, u2, u3, u4, u5]
 rw [show decide (a % 4096 = 0) = true from decide_eq_true h1] at K23
 by_cases h2 : n = 0
 ·have HR : Hid (R = (22, ms, cs, ps)) := by have h := HR0.out; rw [if_pos (Or.inr (Or.inl h2))] at h; exact h
  have h2' : (n : Int) = 0 := by omega
  clear h1 HR0 K33
  subst h2
  go_enter Tryz.func13, Tryz.ntmps13
  go_wp2_with fail
  refine (K27.out _).mono ?_
  rintro e w8 ⟨rfl, rfl⟩
  go_wp2_with fail
  refine (K23.out _).mono ?_
  rintro e w9 ⟨rfl, rfl⟩
  go_wp2_with fail
  refine K26.mono ?_
  rintro e w1 ⟨v, rfl, ⟨x1, x2, x3, x4, x5, x6, x7, x8, x9, rfl, hs1⟩, hb1⟩
  have BRy := BR.keep hb1
  have bW := below_tr hb hb1
  clear K26 BR BG hb
  obtain ⟨q0, q1, q2, q3, q4, q5⟩ := BRy.cells
  obtain ⟨f0, f1, f2, f3, f4, f5⟩ := BRy.frees
  have HE' : Hid _ := BRy.set6 (.slice x1 x2 x3) (.slice x4 x5 x6) (.int .u64 (bs : Int)) (.slice x7 x8 x9) (.int .u32 (st : Int)) (.int .u32 (en : Int))
  have HS' : Hid _ := slg_S6 hs1 BRy x1 x4 x7 x2 x3 x5 x6 x8 x9 (bs : Int) (st : Int) (en : Int)
  have HW' : Hid _ := S6.below (B := w.heap.size) (b := nR) bW (by have := HNE.out; omega) (.slice x1 x2 x3) (.slice x4 x5 x6) (.int .u64 (bs : Int)) (.slice x7 x8 x9) (.int .u32 (st : Int)) (.int .u32 (en : Int))
  clear BRy hs1 bW
  go_wp2
  obtain ⟨u0, u1, u2, u3, u4, u5⟩ := B6.cells HE'.out
  unfold S6 S4 at u0 u1 u2 u3 u4 u5
  refine bodyPost_ret (v := .tuple #[.agg #[.slice x1 x2 x3, .slice x4 x5 x6, .int .u64 (bs : Int), .slice x7 x8 x9, .int .u32 (st : Int), .int .u32 (en : Int)], .int .i64 22]) ?_ rfl (by rw [HR.out]; exact ⟨x1, x2, x3, x4, x5, x6, x7, x8, x9, rfl, HS'.out, HW'.out⟩)
  rw [results_cell_tmp rfl]; simp [go_sem, u0, u1, u2, u3, u4, u5]
 have h2' : ((n : Int) == 0) = false := by simp; omega
 have h2'' : (n = 0) = False := by simp [h2]
 have h2a : ((n : Int) = 0) = False := by simp [h2]
 by_cases h3 : 1048576 < fi + pg
 ·have HR : Hid (R = (22, ms, cs, ps)) := by have h := HR0.out; rw [if_pos (Or.inr (Or.inr h3))] at h; exact h
  have h3' : (1048576 : Int) < ((fi + pg : Nat) : Int) := by omega
  have h3'' : (1048576 : Int) < (fi : Int) + (pg : Int) := by omega
  clear h1 HR0 K33 h2
  go_enter Tryz.func13, Tryz.ntmps13
  go_wp2_with fail
  refine (K27.out _).mono ?_
  rintro e w8 ⟨rfl, rfl⟩
  go_wp2_with fail
  refine (K23.out _).mono ?_
  rintro e w9 ⟨rfl, rfl⟩
  go_wp2_with fail
  refine K26.mono ?_
  rintro e w1 ⟨v, rfl, ⟨x1, x2, x3, x4, x5, x6, x7, x8, x9, rfl, hs1⟩, hb1⟩
  have BRy := BR.keep hb1
  have bW := below_tr hb hb1
  clear K26 BR BG hb
  obtain ⟨q0, q1, q2, q3, q4, q5⟩ := BRy.cells
  obtain ⟨f0, f1, f2, f3, f4, f5⟩ := BRy.frees
  have HE' : Hid _ := BRy.set6 (.slice x1 x2 x3) (.slice x4 x5 x6) (.int .u64 (bs : Int)) (.slice x7 x8 x9) (.int .u32 (st : Int)) (.int .u32 (en : Int))
  have HS' : Hid _ := slg_S6 hs1 BRy x1 x4 x7 x2 x3 x5 x6 x8 x9 (bs : Int) (st : Int) (en : Int)
  have HW' : Hid _ := S6.below (B := w.heap.size) (b := nR) bW (by have := HNE.out; omega) (.slice x1 x2 x3) (.slice x4 x5 x6) (.int .u64 (bs : Int)) (.slice x7 x8 x9) (.int .u32 (st : Int)) (.int .u32 (en : Int))
  clear BRy hs1 bW
  go_wp2
  obtain ⟨u0, u1, u2, u3, u4, u5⟩ := B6.cells HE'.out
  unfold S6 S4 at u0 u1 u2 u3 u4 u5
  refine bodyPost_ret (v := .tuple #[.agg #[.slice x1 x2 x3, .slice x4 x5 x6, .int .u64 (bs : Int), .slice x7 x8 x9, .int .u32 (st : Int), .int .u32 (en : Int)], .int .i64 22]) ?_ rfl (by rw [HR.out]; exact ⟨x1, x2, x3, x4, x5, x6, x7, x8, x9, rfl, HS'.out, HW'.out⟩)
  rw [results_cell_tmp rfl]; simp [go_sem, u0, u1, u2, u3, u4, u5]
 have HR0 : Hid (R = unmapR ms cs ps bs fi pg) := by have h := HR0.out; rw [if_neg (by omega)] at h; exact h
 have h3' : ((fi + pg : Nat) : Int) ≤ 1048576 := by omega
 have h3'' : (fi : Int) + (pg : Int) ≤ 1048576 := by omega
 rw [← HR0.out] at K33
 obtain ⟨rc, rms, rcs, rps⟩ := R
 have HR : Hid ((rc, rms, rcs, rps) = (rc, rms, rcs, rps)) := rfl
 clear h1 h2 h3 HR0 K26
 go_enter Tryz.func13, Tryz.ntmps13
 go_wp2_with fail
 refine (K27.out _).mono ?_
 rintro e w8 ⟨rfl, rfl⟩
 go_wp2_with fail
 refine (K23.out _).mono ?_
 rintro e w9 ⟨rfl, rfl⟩
 go_wp2_with fail
 refine K33.mono ?_
 rintro e w1 ⟨x1, x2, x3, x4, x5, x6, x7, x8, x9, rfl, hs0, hb1⟩
 clear K33
 have BGy := BG.keep hb1
 have hs1 := slg_S4 hs0 BGy x1 x4 x7 x2 x3 x5 x6 x8 x9 (bs : Int)
 have BG2 := BGy.set4 (.slice x1 x2 x3) (.slice x4 x5 x6) (.int .u64 (bs : Int)) (.slice x7 x8 x9)
 have bW := S4.below (B := w.heap.size) (b := nG) (below_tr hb hb1) (by have := HNE.out; omega) (.slice x1 x2 x3) (.slice x4 x5 x6) (.int .u64 (bs : Int)) (.slice x7 x8 x9)
 have BRy : B6 (S4 w1 nG (.slice x1 x2 x3) (.slice x4 x5 x6) (.int .u64 (bs : Int)) (.slice x7 x8 x9)) nR 32 (.slice none 0 0) (.slice none 0 0) (.int .u64 0) (.slice none 0 0) (.int .u32 0) (.int .u32 0) := (S4.other w1 nG nR _ _ _ _ (by have := HNE.out; omega)).trans (BR.keep hb1)
 obtain ⟨c0, c1, c2, c3, c4, c5⟩ := BGy.cells
 obtain ⟨e0, e1, e2, e3, e4, e5⟩ := BGy.frees
 obtain ⟨W2, hW2⟩ : ∃ z, S4 w1 nG (.slice x1 x2 x3) (.slice x4 x5 x6) (.int .u64 (bs : Int)) (.slice x7 x8 x9) = z := ⟨_, rfl⟩
 rw [hW2] at hs1 BG2 bW BRy
 unfold S4 at hW2
 obtain ⟨d0, d1, d2, d3, d4, d5⟩ := BG2.cells
 clear BGy BG2 BG BR hs0 hb hb1
 obtain ⟨q0, q1, q2, q3, q4, q5⟩ := BRy.cells
 obtain ⟨f0, f1, f2, f3, f4, f5⟩ := BRy.frees
 have HE' : Hid _ := BRy.set6 (.slice x1 x2 x3) (.slice x4 x5 x6) (.int .u64 (bs : Int)) (.slice x7 x8 x9) (.int .u32 (st : Int)) (.int .u32 (en : Int))
 have HS' : Hid _ := slg_S6 hs1 BRy x1 x4 x7 x2 x3 x5 x6 x8 x9 (bs : Int) (st : Int) (en : Int)
 have HW' : Hid _ := S6.below (B := w.heap.size) (b := nR) bW (by have := HNE.out; omega) (.slice x1 x2 x3) (.slice x4 x5 x6) (.int .u64 (bs : Int)) (.slice x7 x8 x9) (.int .u32 (st : Int)) (.int .u32 (en : Int))
 clear BRy hs1 bW
 go_wp2
 obtain ⟨u0, u1, u2, u3, u4, u5⟩ := B6.cells HE'.out
 unfold S6 S4 at u0 u1 u2 u3 u4 u5
 refine bodyPost_ret (v := .tuple #[.agg #[.slice x1 x2 x3, .slice x4 x5 x6, .int .u64 (bs : Int), .slice x7 x8 x9, .int .u32 (st : Int), .int .u32 (en : Int)], .int .i64 rc]) ?_ rfl ⟨x1, x2, x3, x4, x5, x6, x7, x8, x9, rfl, HS'.out, HW'.out⟩
 rw [results_cell_tmp rfl]; simp [go_sem, u0, u1, u2, u3, u4, u5]
def mprR (ms cs ps : List (Nat × Int)) (a n : Nat) (prot : Int) : GRes := if a % 4096 ≠ 0 ∨ protOk prot = false then (22, ms, cs, ps) else if n = 0 then (0, ms, cs, ps) else if 1048576 < a / 4096 + pgN n then (12, ms, cs, ps) else protR ms cs ps (a / 4096) (pgN n) prot
set_option maxHeartbeats 4000000 in
theorem mprotect15 (vm vc vp : Value) (bs st en a n : Nat) (prot : Int) (ms cs ps : List (Nat × Int)) (w : World) (hsl : SlG w vm vc vp ms cs ps) (hrc : ∀ y ∈ cs, y.1 < 18446744073709551616) (hw : Words cs) (hf : FitG ms cs ps bs) (ha : a < 4294967296) (hn : n < 4294967296) :
  Calls Tryz.prog 15 #[.agg #[vm, vc, .int .u64 (bs : Int), vp, .int .u32 (st : Int), .int .u32 (en : Int)], .int .u32 (a : Int), .int .u32 (n : Int), .int .i64 prot] w (STold (mprR ms cs ps a n prot) bs st en w) := by
 obtain ⟨am, nm, pm, ac, nc, pc, ap, np, pp, rfl, rfl, rfl⟩ := hsl.shape
 obtain ⟨Xa, X, nR, hXa, hX, hnR, BG, BR, hb, l1, l2⟩ := new2S w (.slice am nm pm) (.slice ac nc pc) (.int .u64 (bs : Int)) (.slice ap np pp) (.int .u32 (st : Int)) (.int .u32 (en : Int))
 obtain ⟨nG, hnG⟩ : ∃ z, w.heap.size = z := ⟨_, rfl⟩
 rw [hnG] at BG l1
 obtain ⟨c0, c1, c2, c3, c4, c5⟩ := BG.cells
 have HNE : Hid (w.heap.size = nG ∧ nG < nR ∧ nR < X.heap.size) := ⟨hnG, l1, l2⟩
 have K26 := freshSpace26 (.slice am nm pm) (.slice ac nc pc) (.slice ap np pp) bs st en ms cs ps X (hsl.keep hb) hf.fq.1 hf.fq.2.1 hf.lp
 obtain ⟨fi, hfi⟩ : ∃ z, z = a / 4096 := ⟨_, rfl⟩
 obtain ⟨pg, hpg⟩ : ∃ z, z = pgN n := ⟨_, rfl⟩
 have hpl : pg ≤ 1048576 := by rw [hpg, pgN]; omega
 have hfl : fi < 1048576 := by omega
 have w1' : (a : Int) / 4096 = (fi : Int) := by omega
 have w2' : (a : Int).tdiv 4096 = (fi : Int) := by rw [Int.tdiv_eq_ediv_of_nonneg (by omega)]; omega
 have w3' : IntKind.u32.wrap ((fi : Int) + (pg : Int)) = ((fi + pg : Nat) : Int) := by rw [IntKind.wrap_u32]; omega
 have K27 : Hid (∀ w', Calls Tryz.prog 27 #[.int .u32 (n : Int)] w' fun e w'' => e = .returned (.int .u32 (pg : Int)) ∧ w'' = w') := fun w' => by rw [hpg]; exact pagesOf27 n w' hn
 have K23 : Hid (∀ w', Calls Tryz.prog 23 #[.int .u32 (a : Int)] w' fun e w'' => e = .returned (.bool (decide (a % 4096 = 0))) ∧ w'' = w') := fun w' => isPlace23 a w'
 have K33 := told22 (.slice am nm pm) (.slice ac nc pc) (.slice ap np pp) ms cs ps bs fi pg prot X (hsl.keep hb) hrc hw (by omega) (by omega) hf
 have K25 : Hid (∀ w', Calls Tryz.prog 25 #[.int .i64 prot] w' fun e w'' => e = .returned (.bool (protOk prot)) ∧ w'' = w') := fun w' => isProt25 prot w'
 obtain ⟨R, hR⟩ : ∃ z, z = mprR ms cs ps a n prot := ⟨_, rfl⟩
 rw [← hR]
 have HR0 : Hid (R = if a % 4096 ≠ 0 ∨ protOk prot = false then (22, ms, cs, ps) else if n = 0 then (0, ms, cs, ps) else if 1048576 < fi + pg then (12, ms, cs, ps) else protR ms cs ps fi pg prot) := by show _ = _; rw [hR, mprR, ← hfi, ← hpg]
 clear hR hfi hpg hsl hrc hw hf
 by_cases h1 : a % 4096 = 0
 case neg =>
  have HR : Hid (R = (22, ms, cs, ps)) := by have h := HR0.out; rw [if_pos (Or.inl h1)] at h; exact h
  rw [show decide (a % 4096 = 0) = false from decide_eq_false h1] at K23
  clear h1 HR0 K33 K25
  go_enter Tryz.func15, Tryz.ntmps15
  go_wp2_with fail
  refine (K27.out _).mono ?_
  rintro e w8 ⟨rfl, rfl⟩
  go_wp2_with fail
  refine (K23.out _).mono ?_
  rintro e w9 ⟨rfl, rfl⟩
  go_wp2_with fail
  refine K26.mono ?_
  rintro e w1 ⟨v, rfl, ⟨x1, x2, x3, x4, x5, x6, x7, x8, x9, rfl, hs1⟩, hb1⟩
  have BRy := BR.keep hb1
  have bW := below_tr hb hb1
  clear K26 BR BG hb
  obtain ⟨q0, q1, q2, q3, q4, q5⟩ := BRy.cells
  obtain ⟨f0, f1, f2, f3, f4, f5⟩ := BRy.frees
  have HE' : Hid _ := BRy.set6 (.slice x1 x2 x3) (.slice x4 x5 x6) (.int .u64 (bs : Int)) (.slice x7 x8 x9) (.int .u32 (st : Int)) (.int .u32 (en : Int))
  have HS' : Hid _ := slg_S6 hs1 BRy x1 x4 x7 x2 x3 x5 x6 x8 x9 (bs : Int) (st : Int) (en : Int)
  have HW' : Hid _ := S6.below (B := w.heap.size) (b := nR) bW (by have := HNE.out; omega) (.slice x1 x2 x3) (.slice x4 x5 x6) (.int .u64 (bs : Int)) (.slice x7 x8 x9) (.int .u32 (st : Int)) (.int .u32 (en : Int))
  clear BRy hs1 bW
  go_wp2
  obtain ⟨u0, u1, u2, u3, u4, u5⟩ := B6.cells HE'.out
  unfold S6 S4 at u0 u1 u2 u3 u4 u5
  refine bodyPost_ret (v := .tuple #[.agg #[.slice x1 x2 x3, .slice x4 x5 x6, .int .u64 (bs : Int), .slice x7 x8 x9, .int .u32 (st : Int), .int .u32 (en : Int)], .int .i64 22]) ?_ rfl (by rw [HR.out]; exact ⟨x1, x2, x3, x4, x5, x6, x7, x8, x9, rfl, HS'.out, HW'.out⟩)
  rw [results_cell_tmp rfl]; simp [go_sem, u0, u1, u2, u3, u4, u5]
 rw [show decide (a % 4096 = 0) = true from decide_eq_true h1] at K23
 cases hp : protOk prot with
 | false =>
  have HR : Hid (R = (22, ms, cs, ps)) := by have h := HR0.out; rw [if_pos (Or.inr hp)] at h; exact h
  rw [hp] at K25
  clear h1 HR0 K33 hp
  go_enter Tryz.func15, Tryz.ntmps15
  go_wp2_with fail
  refine (K27.out _).mono ?_
  rintro e w8 ⟨rfl, rfl⟩
  go_wp2_with fail
  refine (K23.out _).mono ?_
  rintro e w9 ⟨rfl, rfl⟩
  go_wp2_with fail
  refine (K25.out _).mono ?_
  rintro e w7 ⟨rfl, rfl⟩
  go_wp2_with fail
  refine K26.mono ?_
  rintro e w1 ⟨v, rfl, ⟨x1, x2, x3, x4, x5, x6, x7, x8, x9, rfl, hs1⟩, hb1⟩
  have BRy := BR.keep hb1
  have bW := below_tr hb hb1
  clear K26 BR BG hb
  obtain ⟨q0, q1, q2, q3, q4, q5⟩ := BRy.cells
  obtain ⟨f0, f1, f2, f3, f4, f5⟩ := BRy.frees
  have HE' : Hid _ := BRy.set6 (.slice x1 x2 x3) (.slice x4 x5 x6) (.int .u64 (bs : Int)) (.slice x7 x8 x9) (.int .u32 (st : Int)) (.int .u32 (en : Int))
  have HS' : Hid _ := slg_S6 hs1 BRy x1 x4 x7 x2 x3 x5 x6 x8 x9 (bs : Int) (st : Int) (en : Int)
  have HW' : Hid _ := S6.below (B := w.heap.size) (b := nR) bW (by have := HNE.out; omega) (.slice x1 x2 x3) (.slice x4 x5 x6) (.int .u64 (bs : Int)) (.slice x7 x8 x9) (.int .u32 (st : Int)) (.int .u32 (en : Int))
  clear BRy hs1 bW
  go_wp2
  obtain ⟨u0, u1, u2, u3, u4, u5⟩ := B6.cells HE'.out
  unfold S6 S4 at u0 u1 u2 u3 u4 u5
  refine bodyPost_ret (v := .tuple #[.agg #[.slice x1 x2 x3, .slice x4 x5 x6, .int .u64 (bs : Int), .slice x7 x8 x9, .int .u32 (st : Int), .int .u32 (en : Int)], .int .i64 22]) ?_ rfl (by rw [HR.out]; exact ⟨x1, x2, x3, x4, x5, x6, x7, x8, x9, rfl, HS'.out, HW'.out⟩)
  rw [results_cell_tmp rfl]; simp [go_sem, u0, u1, u2, u3, u4, u5]
 | true =>
 rw [hp] at K25
 have HR0 : Hid (R = if n = 0 then (0, ms, cs, ps) else if 1048576 < fi + pg then (12, ms, cs, ps) else protR ms cs ps fi pg prot) := by have h := HR0.out; rw [if_neg (by rw [hp]; simp [h1])] at h; exact h
 clear h1 hp
 by_cases h2 : n = 0
 ·have HR : Hid (R = (0, ms, cs, ps)) := by have h := HR0.out; rw [if_pos h2] at h; exact h
  clear HR0 K33
  subst h2
  go_enter Tryz.func15, Tryz.ntmps15
  go_wp2_with fail
  refine (K27.out _).mono ?_
  rintro e w8 ⟨rfl, rfl⟩
  go_wp2_with fail
  refine (K23.out _).mono ?_
  rintro e w9 ⟨rfl, rfl⟩
  go_wp2_with fail
  refine (K25.out _).mono ?_
  rintro e w7 ⟨rfl, rfl⟩
  go_wp2_with fail
  refine K26.mono ?_
  rintro e w1 ⟨v, rfl, ⟨x1, x2, x3, x4, x5, x6, x7, x8, x9, rfl, hs1⟩, hb1⟩
  have BRy := BR.keep hb1
  have bW := below_tr hb hb1
  clear K26 BR BG hb
  obtain ⟨q0, q1, q2, q3, q4, q5⟩ := BRy.cells
  obtain ⟨f0, f1, f2, f3, f4, f5⟩ := BRy.frees
  have HE' : Hid _ := BRy.set6 (.slice x1 x2 x3) (.slice x4 x5 x6) (.int .u64 (bs : Int)) (.slice x7 x8 x9) (.int .u32 (st : Int)) (.int .u32 (en : Int))
  have HS' : Hid _ := slg_S6 hs1 BRy x1 x4 x7 x2 x3 x5 x6 x8 x9 (bs : Int) (st : Int) (en : Int)
  have HW' : Hid _ := S6.below (B := w.heap.size) (b := nR) bW (by have := HNE.out; omega) (.slice x1 x2 x3) (.slice x4 x5 x6) (.int .u64 (bs : Int)) (.slice x7 x8 x9) (.int .u32 (st : Int)) (.int .u32 (en : Int))
  clear BRy hs1 bW
  go_wp2
  obtain ⟨u0, u1, u2, u3, u4, u5⟩ := B6.cells HE'.out
  unfold S6 S4 at u0 u1 u2 u3 u4 u5
  refine bodyPost_ret (v := .tuple #[.agg #[.slice x1 x2 x3, .slice x4 x5 x6, .int .u64 (bs : Int), .slice x7 x8 x9, .int .u32 (st : Int), .int .u32 (en : Int)], .int .i64 0]) ?_ rfl (by rw [HR.out]; exact ⟨x1, x2, x3, x4, x5, x6, x7, x8, x9, rfl, HS'.out, HW'.out⟩)
  rw [results_cell_tmp rfl]; simp [go_sem, u0, u1, u2, u3, u4, u5]
 have h2' : ((n : Int) == 0) = false := by simp; omega
 have h2'' : (n = 0) = False := by simp [h2]
 have h2a : ((n : Int) = 0) = False := by simp [h2]
 have HR0 : Hid (R = if 1048576 < fi + pg then (12, ms, cs, ps) else protR ms cs ps fi pg prot) := by have h := HR0.out; rw [if_neg h2] at h; exact h
 by_cases h3 : 1048576 < fi + pg
 ·have HR : Hid (R = (12, ms, cs, ps)) := by have h := HR0.out; rw [if_pos h3] at h; exact h
  have h3' : (1048576 : Int) < ((fi + pg : Nat) : Int) := by omega
  have h3'' : (1048576 : Int) < (fi : Int) + (pg : Int) := by omega
  clear HR0 K33 h2
  go_enter Tryz.func15, Tryz.ntmps15
  go_wp2_with fail
  refine (K27.out _).mono ?_
  rintro e w8 ⟨rfl, rfl⟩
  go_wp2_with fail
  refine (K23.out _).mono ?_
  rintro e w9 ⟨rfl, rfl⟩
  go_wp2_with fail
  refine (K25.out _).mono ?_
  rintro e w7 ⟨rfl, rfl⟩
  go_wp2_with fail
  refine K26.mono ?_
  rintro e w1 ⟨v, rfl, ⟨x1, x2, x3, x4, x5, x6, x7, x8, x9, rfl, hs1⟩, hb1⟩
  have BRy := BR.keep hb1
  have bW := below_tr hb hb1
  clear K26 BR BG hb
  obtain ⟨q0, q1, q2, q3, q4, q5⟩ := BRy.cells
  obtain ⟨f0, f1, f2, f3, f4, f5⟩ := BRy.frees
  have HE' : Hid _ := BRy.set6 (.slice x1 x2 x3) (.slice x4 x5 x6) (.int .u64 (bs : Int)) (.slice x7 x8 x9) (.int .u32 (st : Int)) (.int .u32 (en : Int))
  have HS' : Hid _ := slg_S6 hs1 BRy x1 x4 x7 x2 x3 x5 x6 x8 x9 (bs : Int) (st : Int) (en : Int)
  have HW' : Hid _ := S6.below (B := w.heap.size) (b := nR) bW (by have := HNE.out; omega) (.slice x1 x2 x3) (.slice x4 x5 x6) (.int .u64 (bs : Int)) (.slice x7 x8 x9) (.int .u32 (st : Int)) (.int .u32 (en : Int))
  clear BRy hs1 bW
  go_wp2
  obtain ⟨u0, u1, u2, u3, u4, u5⟩ := B6.cells HE'.out
  unfold S6 S4 at u0 u1 u2 u3 u4 u5
  refine bodyPost_ret (v := .tuple #[.agg #[.slice x1 x2 x3, .slice x4 x5 x6, .int .u64 (bs : Int), .slice x7 x8 x9, .int .u32 (st : Int), .int .u32 (en : Int)], .int .i64 12]) ?_ rfl (by rw [HR.out]; exact ⟨x1, x2, x3, x4, x5, x6, x7, x8, x9, rfl, HS'.out, HW'.out⟩)
  rw [results_cell_tmp rfl]; simp [go_sem, u0, u1, u2, u3, u4, u5]
 have HR0 : Hid (R = protR ms cs ps fi pg prot) := by have h := HR0.out; rw [if_neg h3] at h; exact h
 have h3' : ((fi + pg : Nat) : Int) ≤ 1048576 := by omega
 have h3'' : (fi : Int) + (pg : Int) ≤ 1048576 := by omega
 rw [← HR0.out] at K33
 obtain ⟨rc, rms, rcs, rps⟩ := R
 have HR : Hid ((rc, rms, rcs, rps) = (rc, rms, rcs, rps)) := rfl
 clear h2 h3 HR0 K26
 go_enter Tryz.func15, Tryz.ntmps15
 go_wp2_with fail
 refine (K27.out _).mono ?_
 rintro e w8 ⟨rfl, rfl⟩
 go_wp2_with fail
 refine (K23.out _).mono ?_
 rintro e w9 ⟨rfl, rfl⟩
 go_wp2_with fail
 refine (K25.out _).mono ?_
 rintro e w7 ⟨rfl, rfl⟩
 go_wp2_with fail
 refine K33.mono ?_
 rintro e w1 ⟨x1, x2, x3, x4, x5, x6, x7, x8, x9, rfl, hs0, hb1⟩
 clear K33
 have BGy := BG.keep hb1
 have hs1 := slg_S4 hs0 BGy x1 x4 x7 x2 x3 x5 x6 x8 x9 (bs : Int)
 have BG2 := BGy.set4 (.slice x1 x2 x3) (.slice x4 x5 x6) (.int .u64 (bs : Int)) (.slice x7 x8 x9)
 have bW := S4.below (B := w.heap.size) (b := nG) (below_tr hb hb1) (by have := HNE.out; omega) (.slice x1 x2 x3) (.slice x4 x5 x6) (.int .u64 (bs : Int)) (.slice x7 x8 x9)
 have BRy : B6 (S4 w1 nG (.slice x1 x2 x3) (.slice x4 x5 x6) (.int .u64 (bs : Int)) (.slice x7 x8 x9)) nR 32 (.slice none 0 0) (.slice none 0 0) (.int .u64 0) (.slice none 0 0) (.int .u32 0) (.int .u32 0) := (S4.other w1 nG nR _ _ _ _ (by have := HNE.out; omega)).trans (BR.keep hb1)
 obtain ⟨c0, c1, c2, c3, c4, c5⟩ := BGy.cells
 obtain ⟨e0, e1, e2, e3, e4, e5⟩ := BGy.frees
 obtain ⟨W2, hW2⟩ : ∃ z, S4 w1 nG (.slice x1 x2 x3) (.slice x4 x5 x6) (.int .u64 (bs : Int)) (.slice x7 x8 x9) = z := ⟨_, rfl⟩
 rw [hW2] at hs1 BG2 bW BRy
 unfold S4 at hW2
 obtain ⟨d0, d1, d2, d3, d4, d5⟩ := BG2.cells
 clear BGy BG2 BG BR hs0 hb hb1
 obtain ⟨q0, q1, q2, q3, q4, q5⟩ := BRy.cells
 obtain ⟨f0, f1, f2, f3, f4, f5⟩ := BRy.frees
 have HE' : Hid _ := BRy.set6 (.slice x1 x2 x3) (.slice x4 x5 x6) (.int .u64 (bs : Int)) (.slice x7 x8 x9) (.int .u32 (st : Int)) (.int .u32 (en : Int))
 have HS' : Hid _ := slg_S6 hs1 BRy x1 x4 x7 x2 x3 x5 x6 x8 x9 (bs : Int) (st : Int) (en : Int)
 have HW' : Hid _ := S6.below (B := w.heap.size) (b := nR) bW (by have := HNE.out; omega) (.slice x1 x2 x3) (.slice x4 x5 x6) (.int .u64 (bs : Int)) (.slice x7 x8 x9) (.int .u32 (st : Int)) (.int .u32 (en : Int))
 clear BRy hs1 bW
 go_wp2
 obtain ⟨u0, u1, u2, u3, u4, u5⟩ := B6.cells HE'.out
 unfold S6 S4 at u0 u1 u2 u3 u4 u5
 refine bodyPost_ret (v := .tuple #[.agg #[.slice x1 x2 x3, .slice x4 x5 x6, .int .u64 (bs : Int), .slice x7 x8 x9, .int .u32 (st : Int), .int .u32 (en : Int)], .int .i64 rc]) ?_ rfl ⟨x1, x2, x3, x4, x5, x6, x7, x8, x9, rfl, HS'.out, HW'.out⟩
 rw [results_cell_tmp rfl]; simp [go_sem, u0, u1, u2, u3, u4, u5]
end Go.Proofs.YtkpmkgkfpikpfaaGreat
