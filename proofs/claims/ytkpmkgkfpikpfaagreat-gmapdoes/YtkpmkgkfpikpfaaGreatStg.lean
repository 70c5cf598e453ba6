/- What is proved here: the program's Mmap. -/
import Derived.Test.YtkpmkgkfpikpfaaGreatStf
import Derived.Test.YtkpmkgkfpikpfaaGreatSu
namespace Go.Proofs.YtkpmkgkfpikpfaaGreat
open Go.RowKit
set_option linter.unusedVariables false
set_option linter.unusedSimpArgs false
set_option maxRecDepth 100000
theorem results_ctt {fn : Func} {p a b : Tmp} {ty : TypeId} (h : fn.results = #[.cell p ty, .tmp a, .tmp b]) (tmps : Array Value) (P : Program) (w : World) :
  (results fn tmps).run P w = ((asAddr (tmps.getD p undef)).run P w).andThen fun ad w₁ => ((loadVar ty ad).run P w₁).andThen fun v w₂ => .ok (.tuple #[v, tmps.getD a undef, tmps.getD b undef]) w₂ := by
 simp only [results, h]
 simp [Sem.run_bind, Result.andThen]
def MTold (R : GRes) (at_ : Nat) (bs st en : Nat) (w : World) (e : Ending) (w' : World) : Prop := ∃ am nm pm ac nc pc ap np pp, e = .returned (.tuple #[.agg #[.slice am nm pm, .slice ac nc pc, .int .u64 (bs : Int), .slice ap np pp, .int .u32 (st : Int), .int .u32 (en : Int)], .int .u32 (at_ : Int), .int .i64 R.1]) ∧ SlG w' (.slice am nm pm) (.slice ac nc pc) (.slice ap np pp) R.2.1 R.2.2.1 R.2.2.2 ∧ Below w.heap.size w w'
def MmBad (a n : Nat) (prot : Int) (fixed : Bool) : Prop := n = 0 ∨ protOk prot = false ∨ fixed = true ∧ a % 4096 ≠ 0
def MmIs (ms cs ps : List (Nat × Int)) (bs st en a n : Nat) (prot : Int) (fixed : Bool) (R : GRes) (at_ : Nat) : Prop :=
 (MmBad a n prot fixed ∧ R = (22, ms, cs, ps) ∧ at_ = 0) ∨
 (¬ MmBad a n prot fixed ∧ ∃ f : Nat, ∃ err : Int, FpIs ps st en a (pgN n) fixed f err ∧ ((err ≠ 0 ∧ R = (err, ms, cs, ps) ∧ at_ = 0) ∨ (err = 0 ∧ R = mapR ms cs ps bs f (pgN n) prot ∧ at_ = if R.1 = 0 then f * 4096 else 0)))
theorem frR_lt (n : Nat) : ∀ (l : List (Nat × Nat)) (b : Nat), (frR n l b).getD 0 ≤ b
 | [], b => by simp [frR]
 | t :: r, b => by
  unfold frR
  split
  ·simp
  ·refine Nat.le_trans (frR_lt n r _) ?_
   split <;> omega
theorem fp_lt {ps : List (Nat × Int)} {st en a n : Nat} {fixed : Bool} {f : Nat} {err : Int} (h : FpIs ps st en a n fixed f err) (ha : a < 4294967296) : f < 1048576 := by
 rcases h with ⟨_, h, _⟩ | ⟨_, _, h, _⟩ | ⟨_, _, _, ts, _, _, h, _⟩
 iterate 2
  ·omega
 ·have := frR_lt n (bwT ts ts.length) 458752
  omega
set_option maxHeartbeats 4000000 in
theorem mmap11 (vm vc vp : Value) (bs st en a n : Nat) (prot : Int) (fixed : Bool) (ms cs ps : List (Nat × Int)) (w : World) (hsl : SlG w vm vc vp ms cs ps) (hrc : ∀ y ∈ cs, y.1 < 18446744073709551616) (hw : Words cs) (hf : FitG ms cs ps bs) (hst : st < 4294967296) (hen : en < 4294967296) (ha : a < 4294967296) (hn : n < 4294967296) :
  Calls Tryz.prog 11 #[.agg #[vm, vc, .int .u64 (bs : Int), vp, .int .u32 (st : Int), .int .u32 (en : Int)], .int .u32 (a : Int), .int .u32 (n : Int), .int .i64 prot, .bool fixed] w fun e w' => ∃ R at_, MmIs ms cs ps bs st en a n prot fixed R at_ ∧ MTold R at_ bs st en w e w' := by
 obtain ⟨am, nm, pm, ac, nc, pc, ap, np, pp, rfl, rfl, rfl⟩ := hsl.shape
 obtain ⟨Xa, X, nR, hXa, hX, hnR, BG, BR, hb, l1, l2⟩ := new2S w (.slice am nm pm) (.slice ac nc pc) (.int .u64 (bs : Int)) (.slice ap np pp) (.int .u32 (st : Int)) (.int .u32 (en : Int))
 obtain ⟨nG, hnG⟩ : ∃ z, w.heap.size = z := ⟨_, rfl⟩
 rw [hnG] at BG l1
 obtain ⟨c0, c1, c2, c3, c4, c5⟩ := BG.cells
 have HNE : Hid (w.heap.size = nG ∧ nG < nR ∧ nR < X.heap.size) := ⟨hnG, l1, l2⟩
 have K26 : Hid (∀ w', Below X.heap.size X w' → Calls Tryz.prog 26 #[.agg #[.slice am nm pm, .slice ac nc pc, .int .u64 (bs : Int), .slice ap np pp, .int .u32 (st : Int), .int .u32 (en : Int)]] w' fun e w'' => ∃ v, e = .returned v ∧ FrS bs st en ms cs ps v w'' ∧ Below w'.heap.size w' w'') := fun w' hb' => freshSpace26 (.slice am nm pm) (.slice ac nc pc) (.slice ap np pp) bs st en ms cs ps w' (hsl.keep (below_tr hb hb')) hf.fq.1 hf.fq.2.1 hf.lp
 obtain ⟨pg, hpg⟩ : ∃ z, z = pgN n := ⟨_, rfl⟩
 have hpl : pg ≤ 1048576 := by rw [hpg, pgN]; omega
 have K27 : Hid (∀ w', Calls Tryz.prog 27 #[.int .u32 (n : Int)] w' fun e w'' => e = .returned (.int .u32 (pg : Int)) ∧ w'' = w') := fun w' => by rw [hpg]; exact pagesOf27 n w' hn
 have K23 : Hid (∀ w', Calls Tryz.prog 23 #[.int .u32 (a : Int)] w' fun e w'' => e = .returned (.bool (decide (a % 4096 = 0))) ∧ w'' = w') := fun w' => isPlace23 a w'
 have K25 : Hid (∀ w', Calls Tryz.prog 25 #[.int .i64 prot] w' fun e w'' => e = .returned (.bool (protOk prot)) ∧ w'' = w') := fun w' => isProt25 prot w'
 have K28 : Hid (Calls Tryz.prog 28 #[.agg #[.slice am nm pm, .slice ac nc pc, .int .u64 (bs : Int), .slice ap np pp, .int .u32 (st : Int), .int .u32 (en : Int)], .int .u32 (a : Int), .int .u32 (pg : Int), .bool fixed] X (FpTold ps st en a pg fixed X)) :=
  firstPage28 _ _ _ bs st en a pg fixed ps X ⟨_, _, _, rfl⟩ ⟨_, _, _, rfl⟩ (hsl.keep hb).2.2 (fun y hy => (hf.pg y hy).1) hf.lp hst hen ha hpl
 have K29 : Hid (∀ f : Nat, f < 1048576 → ∀ w', Below X.heap.size X w' → Calls Tryz.prog 29 #[.agg #[.slice am nm pm, .slice ac nc pc, .int .u64 (bs : Int), .slice ap np pp], .int .u32 (f : Int), .int .u32 (pg : Int), .int .i64 prot] w' (GTold (mapR ms cs ps bs f pg prot) bs w')) := fun f hfl w' hb' => told18 (.slice am nm pm) (.slice ac nc pc) (.slice ap np pp) ms cs ps bs f pg prot w' (hsl.keep (below_tr hb hb')) hrc hw (by omega) (by omega) hf
 have HA : Hid (a < 4294967296) := ha
 have HM : Hid (∀ R at_, MmIs ms cs ps bs st en a n prot fixed R at_ ↔ ((MmBad a n prot fixed ∧ R = (22, ms, cs, ps) ∧ at_ = 0) ∨ (¬ MmBad a n prot fixed ∧ ∃ f : Nat, ∃ err : Int, FpIs ps st en a pg fixed f err ∧ ((err ≠ 0 ∧ R = (err, ms, cs, ps) ∧ at_ = 0) ∨ (err = 0 ∧ R = mapR ms cs ps bs f pg prot ∧ at_ = if R.1 = 0 then f * 4096 else 0))))) := fun R at_ => by rw [hpg]; exact Iff.rfl
 clear hsl hrc hw hf hst hen hpg ha
 by_cases h1 : n = 0
 ·have HB : Hid (MmBad a n prot fixed) := .inl h1
  have h1' : ((n : Int) == 0) = true := by rw [h1]; rfl
  have h1a : ((n : Int) = 0) := by omega
  clear h1 K25 K23 K27 K28 K29
  go_enter Tryz.func11, Tryz.ntmps11
  go_wp2_with fail
  refine (K26.out _ (Below.refl _ _)).mono ?_
  rintro e w1 ⟨v, rfl, ⟨x1, x2, x3, x4, x5, x6, x7, x8, x9, rfl, hs1⟩, hb1⟩
  have BRy := BR.keep hb1
  have bW := below_tr hb hb1
  clear BR BG hb
  obtain ⟨q0, q1, q2, q3, q4, q5⟩ := BRy.cells
  obtain ⟨f0, f1, f2, f3, f4, f5⟩ := BRy.frees
  have HE' : Hid _ := BRy.set6 (.slice x1 x2 x3) (.slice x4 x5 x6) (.int .u64 (bs : Int)) (.slice x7 x8 x9) (.int .u32 (st : Int)) (.int .u32 (en : Int))
  have HS' : Hid _ := slg_S6 hs1 BRy x1 x4 x7 x2 x3 x5 x6 x8 x9 (bs : Int) (st : Int) (en : Int)
  have HW' : Hid _ := S6.below (B := w.heap.size) (b := nR) bW (by have := HNE.out; omega) (.slice x1 x2 x3) (.slice x4 x5 x6) (.int .u64 (bs : Int)) (.slice x7 x8 x9) (.int .u32 (st : Int)) (.int .u32 (en : Int))
  clear BRy hs1 bW
  go_wp2
  obtain ⟨u0, u1, u2, u3, u4, u5⟩ := B6.cells HE'.out
  unfold S6 S4 at u0 u1 u2 u3 u4 u5
  refine bodyPost_ret (v := .tuple #[.agg #[.slice x1 x2 x3, .slice x4 x5 x6, .int .u64 (bs : Int), .slice x7 x8 x9, .int .u32 (st : Int), .int .u32 (en : Int)], .int .u32 0, .int .i64 22]) ?_ rfl ⟨(22, ms, cs, ps), 0, (HM.out _ _).2 (.inl ⟨HB.out, rfl, rfl⟩), x1, x2, x3, x4, x5, x6, x7, x8, x9, rfl, HS'.out, HW'.out⟩
  rw [results_ctt rfl]; simp [go_sem, u0, u1, u2, u3, u4, u5]
 have h1' : ((n : Int) == 0) = false := by simp; omega
 have h1'' : (n = 0) = False := by simp [h1]
 have h1a : ((n : Int) = 0) = False := by simp [h1]
 cases h2 : protOk prot with
 | false =>
  have HB : Hid (MmBad a n prot fixed) := .inr (.inl h2)
  rw [h2] at K25
  clear h1 K23 K27 K28 K29
  go_enter Tryz.func11, Tryz.ntmps11
  go_wp2_with fail
  refine (K25.out _).mono ?_
  rintro e w9 ⟨rfl, rfl⟩
  go_wp2_with fail
  refine (K26.out _ (Below.refl _ _)).mono ?_
  rintro e w1 ⟨v, rfl, ⟨x1, x2, x3, x4, x5, x6, x7, x8, x9, rfl, hs1⟩, hb1⟩
  have BRy := BR.keep hb1
  have bW := below_tr hb hb1
  clear BR BG hb
  obtain ⟨q0, q1, q2, q3, q4, q5⟩ := BRy.cells
  obtain ⟨f0, f1, f2, f3, f4, f5⟩ := BRy.frees
  have HE' : Hid _ := BRy.set6 (.slice x1 x2 x3) (.slice x4 x5 x6) (.int .u64 (bs : Int)) (.slice x7 x8 x9) (.int .u32 (st : Int)) (.int .u32 (en : Int))
  have HS' : Hid _ := slg_S6 hs1 BRy x1 x4 x7 x2 x3 x5 x6 x8 x9 (bs : Int) (st : Int) (en : Int)
  have HW' : Hid _ := S6.below (B := w.heap.size) (b := nR) bW (by have := HNE.out; omega) (.slice x1 x2 x3) (.slice x4 x5 x6) (.int .u64 (bs : Int)) (.slice x7 x8 x9) (.int .u32 (st : Int)) (.int .u32 (en : Int))
  clear BRy hs1 bW
  go_wp2
  obtain ⟨u0, u1, u2, u3, u4, u5⟩ := B6.cells HE'.out
  unfold S6 S4 at u0 u1 u2 u3 u4 u5
  refine bodyPost_ret (v := .tuple #[.agg #[.slice x1 x2 x3, .slice x4 x5 x6, .int .u64 (bs : Int), .slice x7 x8 x9, .int .u32 (st : Int), .int .u32 (en : Int)], .int .u32 0, .int .i64 22]) ?_ rfl ⟨(22, ms, cs, ps), 0, (HM.out _ _).2 (.inl ⟨HB.out, rfl, rfl⟩), x1, x2, x3, x4, x5, x6, x7, x8, x9, rfl, HS'.out, HW'.out⟩
  rw [results_ctt rfl]; simp [go_sem, u0, u1, u2, u3, u4, u5]
 | true =>
 rw [h2] at K25
 by_cases h3 : fixed = true ∧ a % 4096 ≠ 0
 ·obtain ⟨rfl, h3⟩ := h3
  have HB : Hid (MmBad a n prot true) := .inr (.inr ⟨rfl, h3⟩)
  rw [decide_eq_false h3] at K23
  clear h1 K27 K28 K29
  go_enter Tryz.func11, Tryz.ntmps11
  go_wp2_with fail
  refine (K25.out _).mono ?_
  rintro e w9 ⟨rfl, rfl⟩
  go_wp2_with fail
  refine (K23.out _).mono ?_
  rintro e w9 ⟨rfl, rfl⟩
  go_wp2_with fail
  refine (K26.out _ (Below.refl _ _)).mono ?_
  rintro e w1 ⟨v, rfl, ⟨x1, x2, x3, x4, x5, x6, x7, x8, x9, rfl, hs1⟩, hb1⟩
  have BRy := BR.keep hb1
  have bW := below_tr hb hb1
  clear BR BG hb
  obtain ⟨q0, q1, q2, q3, q4, q5⟩ := BRy.cells
  obtain ⟨f0, f1, f2, f3, f4, f5⟩ := BRy.frees
  have HE' : Hid _ := BRy.set6 (.slice x1 x2 x3) (.slice x4 x5 x6) (.int .u64 (bs : Int)) (.slice x7 x8 x9) (.int .u32 (st : Int)) (.int .u32 (en : Int))
  have HS' : Hid _ := slg_S6 hs1 BRy x1 x4 x7 x2 x3 x5 x6 x8 x9 (bs : Int) (st : Int) (en : Int)
  have HW' : Hid _ := S6.below (B := w.heap.size) (b := nR) bW (by have := HNE.out; omega) (.slice x1 x2 x3) (.slice x4 x5 x6) (.int .u64 (bs : Int)) (.slice x7 x8 x9) (.int .u32 (st : Int)) (.int .u32 (en : Int))
  clear BRy hs1 bW
  go_wp2
  obtain ⟨u0, u1, u2, u3, u4, u5⟩ := B6.cells HE'.out
  unfold S6 S4 at u0 u1 u2 u3 u4 u5
  refine bodyPost_ret (v := .tuple #[.agg #[.slice x1 x2 x3, .slice x4 x5 x6, .int .u64 (bs : Int), .slice x7 x8 x9, .int .u32 (st : Int), .int .u32 (en : Int)], .int .u32 0, .int .i64 22]) ?_ rfl ⟨(22, ms, cs, ps), 0, (HM.out _ _).2 (.inl ⟨HB.out, rfl, rfl⟩), x1, x2, x3, x4, x5, x6, x7, x8, x9, rfl, HS'.out, HW'.out⟩
  rw [results_ctt rfl]; simp [go_sem, u0, u1, u2, u3, u4, u5]
 have HB : Hid (¬ MmBad a n prot fixed) := fun h => by
  rcases h with h | h | h
  ·exact h1 h
  ·rw [h2] at h; cases h
  ·exact h3 h
 cases fixed with
 | false =>
  clear h1 h2 h3 K23
  go_enter Tryz.func11, Tryz.ntmps11
  go_wp2_with fail
  refine (K25.out _).mono ?_
  rintro e w9 ⟨rfl, rfl⟩
  go_wp2_with fail
  refine (K27.out _).mono ?_
  rintro e w9 ⟨rfl, rfl⟩
  go_wp2_with fail
  refine K28.out.mono ?_
  rintro e w7 ⟨fp, er, rfl, hfp, hb7⟩
  have c0 := keep_cell hb7 c0
  have c1 := keep_cell hb7 c1
  have c2 := keep_cell hb7 c2
  have c3 := keep_cell hb7 c3
  have c4 := keep_cell hb7 c4
  have c5 := keep_cell hb7 c5
  have HFP : Hid (FpIs ps st en a pg false fp er) := hfp
  have hfl := fp_lt hfp HA.out
  have K26' := K26.out w7 hb7
  have K29' := K29.out fp hfl w7 hb7
  have BG := BG.keep hb7
  have BR := BR.keep hb7
  have hb := below_tr hb hb7
  clear hfp hb7 K26 K29 K28 K27
  by_cases he : er = 0
  ·subst he
   obtain ⟨R, hR⟩ : ∃ z, z = mapR ms cs ps bs fp pg prot := ⟨_, rfl⟩
   rw [← hR] at K29'
   have HR : Hid (R = mapR ms cs ps bs fp pg prot) := hR
   clear hR K26'
   obtain ⟨rc, rms, rcs, rps⟩ := R
   go_wp2_with fail
   refine K29'.mono ?_
   rintro e w1 ⟨x1, x2, x3, x4, x5, x6, x7, x8, x9, rfl, hs0, hb1⟩
   clear K29'
   have BGy := BG.keep hb1
   have hs1 := slg_S4 hs0 BGy x1 x4 x7 x2 x3 x5 x6 x8 x9 (bs : Int)
   have BG2 := BGy.set4 (.slice x1 x2 x3) (.slice x4 x5 x6) (.int .u64 (bs : Int)) (.slice x7 x8 x9)
   have bW := S4.below (B := w.heap.size) (b := nG) (below_tr hb hb1) (by have := HNE.out; omega) (.slice x1 x2 x3) (.slice x4 x5 x6) (.int .u64 (bs : Int)) (.slice x7 x8 x9)
   have BRy : B6 (S4 w1 nG (.slice x1 x2 x3) (.slice x4 x5 x6) (.int .u64 (bs : Int)) (.slice x7 x8 x9)) nR 32 (.slice none 0 0) (.slice none 0 0) (.int .u64 0) (.slice none 0 0) (.int .u32 0) (.int .u32 0) := (S4.other w1 nG nR _ _ _ _ (by have := HNE.out; omega)).trans (BR.keep hb1)
   obtain ⟨c0, c1, c2, c3, c4, c5⟩ := BGy.cells
   obtain ⟨e0, e1, e2, e3, e4, e5⟩ := BGy.frees
   obtain ⟨W2, hW2⟩ : ∃ z, S4 w1 nG (.slice x1 x2 x3) (.slice x4 x5 x6) (.int .u64 (bs : Int)) (.slice x7 x8 x9) = z := ⟨_, rfl⟩
   rw [hW2] at hs1 BG2 bW BRy
   unfold S4 at hW2
   obtain ⟨d0, d1, d2, d3, d4, d5⟩ := BG2.cells
   clear BGy BG2 BG BR hs0 hb hb1
   obtain ⟨q0, q1, q2, q3, q4, q5⟩ := BRy.cells
   obtain ⟨f0, f1, f2, f3, f4, f5⟩ := BRy.frees
   have HE' : Hid _ := BRy.set6 (.slice x1 x2 x3) (.slice x4 x5 x6) (.int .u64 (bs : Int)) (.slice x7 x8 x9) (.int .u32 (st : Int)) (.int .u32 (en : Int))
   have HS' : Hid _ := slg_S6 hs1 BRy x1 x4 x7 x2 x3 x5 x6 x8 x9 (bs : Int) (st : Int) (en : Int)
   have HW' : Hid _ := S6.below (B := w.heap.size) (b := nR) bW (by have := HNE.out; omega) (.slice x1 x2 x3) (.slice x4 x5 x6) (.int .u64 (bs : Int)) (.slice x7 x8 x9) (.int .u32 (st : Int)) (.int .u32 (en : Int))
   clear BRy hs1 bW
   by_cases hrc : rc = 0
   ·subst hrc
    obtain ⟨fa, hfa⟩ : ∃ z, z = fp * 4096 := ⟨_, rfl⟩
    have m1 : (fp : Int) * 4096 % 4294967296 = (fa : Int) := by omega
    have m2 : (fp : Int) * 4096 = (fa : Int) := by omega
    have HMM : Hid (MmIs ms cs ps bs st en a n prot false (0, rms, rcs, rps) fa) := (HM.out _ _).2 (.inr ⟨HB.out, fp, 0, HFP.out, .inr ⟨rfl, HR.out, by rw [hfa]; rfl⟩⟩)
    clear hfa hfl
    go_wp2
    obtain ⟨u0, u1, u2, u3, u4, u5⟩ := B6.cells HE'.out
    unfold S6 S4 at u0 u1 u2 u3 u4 u5
    refine bodyPost_ret (v := .tuple #[.agg #[.slice x1 x2 x3, .slice x4 x5 x6, .int .u64 (bs : Int), .slice x7 x8 x9, .int .u32 (st : Int), .int .u32 (en : Int)], .int .u32 (fa : Int), .int .i64 0]) ?_ rfl ⟨(0, rms, rcs, rps), fa, HMM.out, x1, x2, x3, x4, x5, x6, x7, x8, x9, rfl, HS'.out, HW'.out⟩
    rw [results_ctt rfl]; simp [go_sem, u0, u1, u2, u3, u4, u5]
   ·have hre : (rc == 0) = false := by simpa using hrc
    have hrn : (rc != 0) = true := by simpa using hrc
    have HMM : Hid (MmIs ms cs ps bs st en a n prot false (rc, rms, rcs, rps) 0) := (HM.out _ _).2 (.inr ⟨HB.out, fp, 0, HFP.out, .inr ⟨rfl, HR.out, by rw [if_neg hrc]⟩⟩)
    clear hfl
    go_wp2
    obtain ⟨u0, u1, u2, u3, u4, u5⟩ := B6.cells HE'.out
    unfold S6 S4 at u0 u1 u2 u3 u4 u5
    refine bodyPost_ret (v := .tuple #[.agg #[.slice x1 x2 x3, .slice x4 x5 x6, .int .u64 (bs : Int), .slice x7 x8 x9, .int .u32 (st : Int), .int .u32 (en : Int)], .int .u32 0, .int .i64 rc]) ?_ rfl ⟨(rc, rms, rcs, rps), 0, HMM.out, x1, x2, x3, x4, x5, x6, x7, x8, x9, rfl, HS'.out, HW'.out⟩
    rw [results_ctt rfl]; simp [go_sem, u0, u1, u2, u3, u4, u5]
  ·have hre : (er == 0) = false := by simpa using he
   have hrn : (er != 0) = true := by simpa using he
   have HE : Hid (er ≠ 0) := he
   clear K29' hfl
   go_wp2_with fail
   refine K26'.mono ?_
   clear K26'
   rintro e w1 ⟨v, rfl, ⟨x1, x2, x3, x4, x5, x6, x7, x8, x9, rfl, hs1⟩, hb1⟩
   have BRy := BR.keep hb1
   have bW := below_tr hb hb1
   clear BR BG hb
   obtain ⟨q0, q1, q2, q3, q4, q5⟩ := BRy.cells
   obtain ⟨f0, f1, f2, f3, f4, f5⟩ := BRy.frees
   have HE' : Hid _ := BRy.set6 (.slice x1 x2 x3) (.slice x4 x5 x6) (.int .u64 (bs : Int)) (.slice x7 x8 x9) (.int .u32 (st : Int)) (.int .u32 (en : Int))
   have HS' : Hid _ := slg_S6 hs1 BRy x1 x4 x7 x2 x3 x5 x6 x8 x9 (bs : Int) (st : Int) (en : Int)
   have HW' : Hid _ := S6.below (B := w.heap.size) (b := nR) bW (by have := HNE.out; omega) (.slice x1 x2 x3) (.slice x4 x5 x6) (.int .u64 (bs : Int)) (.slice x7 x8 x9) (.int .u32 (st : Int)) (.int .u32 (en : Int))
   clear BRy hs1 bW
   go_wp2
   obtain ⟨u0, u1, u2, u3, u4, u5⟩ := B6.cells HE'.out
   unfold S6 S4 at u0 u1 u2 u3 u4 u5
   refine bodyPost_ret (v := .tuple #[.agg #[.slice x1 x2 x3, .slice x4 x5 x6, .int .u64 (bs : Int), .slice x7 x8 x9, .int .u32 (st : Int), .int .u32 (en : Int)], .int .u32 0, .int .i64 er]) ?_ rfl ⟨(er, ms, cs, ps), 0, (HM.out _ _).2 (.inr ⟨HB.out, fp, er, HFP.out, .inl ⟨HE.out, rfl, rfl⟩⟩), x1, x2, x3, x4, x5, x6, x7, x8, x9, rfl, HS'.out, HW'.out⟩
   rw [results_ctt rfl]; simp [go_sem, u0, u1, u2, u3, u4, u5]
 | true =>
  have h4 : a % 4096 = 0 := by by_cases h : a % 4096 = 0; exact h; exact absurd ⟨rfl, h⟩ h3
  rw [decide_eq_true h4] at K23
  clear h1 h2 h3 h4
  go_enter Tryz.func11, Tryz.ntmps11
  go_wp2_with fail
  refine (K25.out _).mono ?_
  rintro e w9 ⟨rfl, rfl⟩
  go_wp2_with fail
  refine (K23.out _).mono ?_
  rintro e w9 ⟨rfl, rfl⟩
  go_wp2_with fail
  refine (K27.out _).mono ?_
  rintro e w9 ⟨rfl, rfl⟩
  go_wp2_with fail
  refine K28.out.mono ?_
  rintro e w7 ⟨fp, er, rfl, hfp, hb7⟩
  have c0 := keep_cell hb7 c0
  have c1 := keep_cell hb7 c1
  have c2 := keep_cell hb7 c2
  have c3 := keep_cell hb7 c3
  have c4 := keep_cell hb7 c4
  have c5 := keep_cell hb7 c5
  have HFP : Hid (FpIs ps st en a pg true fp er) := hfp
  have hfl := fp_lt hfp HA.out
  have K26' := K26.out w7 hb7
  have K29' := K29.out fp hfl w7 hb7
  have BG := BG.keep hb7
  have BR := BR.keep hb7
  have hb := below_tr hb hb7
  clear hfp hb7 K26 K29 K28 K27
  by_cases he : er = 0
  ·subst he
   obtain ⟨R, hR⟩ : ∃ z, z = mapR ms cs ps bs fp pg prot := ⟨_, rfl⟩
   rw [← hR] at K29'
   have HR : Hid (R = mapR ms cs ps bs fp pg prot) := hR
   clear hR K26'
   obtain ⟨rc, rms, rcs, rps⟩ := R
   go_wp2_with fail
   refine K29'.mono ?_
   rintro e w1 ⟨x1, x2, x3, x4, x5, x6, x7, x8, x9, rfl, hs0, hb1⟩
   clear K29'
   have BGy := BG.keep hb1
   have hs1 := slg_S4 hs0 BGy x1 x4 x7 x2 x3 x5 x6 x8 x9 (bs : Int)
   have BG2 := BGy.set4 (.slice x1 x2 x3) (.slice x4 x5 x6) (.int .u64 (bs : Int)) (.slice x7 x8 x9)
   have bW := S4.below (B := w.heap.size) (b := nG) (below_tr hb hb1) (by have := HNE.out; omega) (.slice x1 x2 x3) (.slice x4 x5 x6) (.int .u64 (bs : Int)) (.slice x7 x8 x9)
   have BRy : B6 (S4 w1 nG (.slice x1 x2 x3) (.slice x4 x5 x6) (.int .u64 (bs : Int)) (.slice x7 x8 x9)) nR 32 (.slice none 0 0) (.slice none 0 0) (.int .u64 0) (.slice none 0 0) (.int .u32 0) (.int .u32 0) := (S4.other w1 nG nR _ _ _ _ (by have := HNE.out; omega)).trans (BR.keep hb1)
   obtain ⟨c0, c1, c2, c3, c4, c5⟩ := BGy.cells
   obtain ⟨e0, e1, e2, e3, e4, e5⟩ := BGy.frees
   obtain ⟨W2, hW2⟩ : ∃ z, S4 w1 nG (.slice x1 x2 x3) (.slice x4 x5 x6) (.int .u64 (bs : Int)) (.slice x7 x8 x9) = z := ⟨_, rfl⟩
   rw [hW2] at hs1 BG2 bW BRy
   unfold S4 at hW2
   obtain ⟨d0, d1, d2, d3, d4, d5⟩ := BG2.cells
   clear BGy BG2 BG BR hs0 hb hb1
   obtain ⟨q0, q1, q2, q3, q4, q5⟩ := BRy.cells
   obtain ⟨f0, f1, f2, f3, f4, f5⟩ := BRy.frees
   have HE' : Hid _ := BRy.set6 (.slice x1 x2 x3) (.slice x4 x5 x6) (.int .u64 (bs : Int)) (.slice x7 x8 x9) (.int .u32 (st : Int)) (.int .u32 (en : Int))
   have HS' : Hid _ := slg_S6 hs1 BRy x1 x4 x7 x2 x3 x5 x6 x8 x9 (bs : Int) (st : Int) (en : Int)
   have HW' : Hid _ := S6.below (B := w.heap.size) (b := nR) bW (by have := HNE.out; omega) (.slice x1 x2 x3) (.slice x4 x5 x6) (.int .u64 (bs : Int)) (.slice x7 x8 x9) (.int .u32 (st : Int)) (.int .u32 (en : Int))
   clear BRy hs1 bW
   by_cases hrc : rc = 0
   ·subst hrc
    obtain ⟨fa, hfa⟩ : ∃ z, z = fp * 4096 := ⟨_, rfl⟩
    have m1 : (fp : Int) * 4096 % 4294967296 = (fa : Int) := by omega
    have m2 : (fp : Int) * 4096 = (fa : Int) := by omega
    have HMM : Hid (MmIs ms cs ps bs st en a n prot true (0, rms, rcs, rps) fa) := (HM.out _ _).2 (.inr ⟨HB.out, fp, 0, HFP.out, .inr ⟨rfl, HR.out, by rw [hfa]; rfl⟩⟩)
    clear hfa hfl
    go_wp2
    obtain ⟨u0, u1, u2, u3, u4, u5⟩ := B6.cells HE'.out
    unfold S6 S4 at u0 u1 u2 u3 u4 u5
    refine bodyPost_ret (v := .tuple #[.agg #[.slice x1 x2 x3, .slice x4 x5 x6, .int .u64 (bs : Int), .slice x7 x8 x9, .int .u32 (st : Int), .int .u32 (en : Int)], .int .u32 (fa : Int), .int .i64 0]) ?_ rfl ⟨(0, rms, rcs, rps), fa, HMM.out, x1, x2, x3, x4, x5, x6, x7, x8, x9, rfl, HS'.out, HW'.out⟩
    rw [results_ctt rfl]; simp [go_sem, u0, u1, u2, u3, u4, u5]
   ·have hre : (rc == 0) = false := by simpa using hrc
    have hrn : (rc != 0) = true := by simpa using hrc
    have HMM : Hid (MmIs ms cs ps bs st en a n prot true (rc, rms, rcs, rps) 0) := (HM.out _ _).2 (.inr ⟨HB.out, fp, 0, HFP.out, .inr ⟨rfl, HR.out, by rw [if_neg hrc]⟩⟩)
    clear hfl
    go_wp2
    obtain ⟨u0, u1, u2, u3, u4, u5⟩ := B6.cells HE'.out
    unfold S6 S4 at u0 u1 u2 u3 u4 u5
    refine bodyPost_ret (v := .tuple #[.agg #[.slice x1 x2 x3, .slice x4 x5 x6, .int .u64 (bs : Int), .slice x7 x8 x9, .int .u32 (st : Int), .int .u32 (en : Int)], .int .u32 0, .int .i64 rc]) ?_ rfl ⟨(rc, rms, rcs, rps), 0, HMM.out, x1, x2, x3, x4, x5, x6, x7, x8, x9, rfl, HS'.out, HW'.out⟩
    rw [results_ctt rfl]; simp [go_sem, u0, u1, u2, u3, u4, u5]
  ·have hre : (er == 0) = false := by simpa using he
   have hrn : (er != 0) = true := by simpa using he
   have HE : Hid (er ≠ 0) := he
   clear K29' hfl
   go_wp2_with fail
   refine K26'.mono ?_
   clear K26'
   rintro e w1 ⟨v, rfl, ⟨x1, x2, x3, x4, x5, x6, x7, x8, x9, rfl, hs1⟩, hb1⟩
   have BRy := BR.keep hb1
   have bW := below_tr hb hb1
   clear BR BG hb
   obtain ⟨q0, q1, q2, q3, q4, q5⟩ := BRy.cells
   obtain ⟨f0, f1, f2, f3, f4, f5⟩ := BRy.frees
   have HE' : Hid _ := BRy.set6 (.slice x1 x2 x3) (.slice x4 x5 x6) (.int .u64 (bs : Int)) (.slice x7 x8 x9) (.int .u32 (st : Int)) (.int .u32 (en : Int))
   have HS' : Hid _ := slg_S6 hs1 BRy x1 x4 x7 x2 x3 x5 x6 x8 x9 (bs : Int) (st : Int) (en : Int)
   have HW' : Hid _ := S6.below (B := w.heap.size) (b := nR) bW (by have := HNE.out; omega) (.slice x1 x2 x3) (.slice x4 x5 x6) (.int .u64 (bs : Int)) (.slice x7 x8 x9) (.int .u32 (st : Int)) (.int .u32 (en : Int))
   clear BRy hs1 bW
   go_wp2
   obtain ⟨u0, u1, u2, u3, u4, u5⟩ := B6.cells HE'.out
   unfold S6 S4 at u0 u1 u2 u3 u4 u5
   refine bodyPost_ret (v := .tuple #[.agg #[.slice x1 x2 x3, .slice x4 x5 x6, .int .u64 (bs : Int), .slice x7 x8 x9, .int .u32 (st : Int), .int .u32 (en : Int)], .int .u32 0, .int .i64 er]) ?_ rfl ⟨(er, ms, cs, ps), 0, (HM.out _ _).2 (.inr ⟨HB.out, fp, er, HFP.out, .inl ⟨HE.out, rfl, rfl⟩⟩), x1, x2, x3, x4, x5, x6, x7, x8, x9, rfl, HS'.out, HW'.out⟩
   rw [results_ctt rfl]; simp [go_sem, u0, u1, u2, u3, u4, u5]
end Go.Proofs.YtkpmkgkfpikpfaaGreat
