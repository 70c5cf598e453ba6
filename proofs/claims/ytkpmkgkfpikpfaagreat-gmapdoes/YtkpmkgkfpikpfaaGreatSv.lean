/- What is proved here: spaces that can be, are few, are the same. -/
import Derived.Test.YtkpmkgkfpikpfaaGreatSu
import Derived.Test.YtkpmkgkfpikpfaaGreatGbk
import Derived.Test.YtkpmkgkfpikpfaaGreatGagp
import Derived.Test.YtkpmkgkfpikpfaaGreatGfit
namespace Go.Proofs.YtkpmkgkfpikpfaaGreat
open Go.RowKit
set_option linter.unusedVariables false
set_option linter.unusedSimpArgs false
set_option maxRecDepth 100000
noncomputable def spFit (ms cs ps : List (Nat × Int)) (bs st en : Nat) : Bool := fitGB ms cs ps bs && decide (st % 4096 = 0) && decide (st ≤ en)
theorem count20 (n : Nat) (w : World) (hn : n < 4294967296) : Calls Tryz.prog 20 #[.int .u32 (n : Int)] w fun e w' => e = .returned (.int .u32 (pgN n : Int)) ∧ w' = w := by
 obtain ⟨q, hq⟩ : ∃ z, z = pgN n := ⟨_, rfl⟩
 have hq2 : q = (n + 4095) / 4096 := by rw [hq, pgN]
 have x0 : IntKind.u64.wrap (n : Int) = (n : Int) := by rw [IntKind.wrap_u64]; omega
 have x1 : IntKind.u64.wrap ((n : Int) + 4096) = (n : Int) + 4096 := by rw [IntKind.wrap_u64]; omega
 have x2 : IntKind.u64.wrap ((n : Int) + 4096 - 1) = (n : Int) + 4095 := by rw [IntKind.wrap_u64]; omega
 have x2' : (n : Int) + 4096 - 1 = (n : Int) + 4095 := by omega
 have x3 : ((n : Int) + 4095) / 4096 = (q : Int) := by omega
 have x3'' : ((n : Int) + 4096 - 1) / 4096 = (q : Int) := by omega
 have x3' : ((n : Int) + 4095).tdiv 4096 = (q : Int) := by rw [Int.tdiv_eq_ediv_of_nonneg (by omega)]; omega
 have x4 : IntKind.u32.wrap (q : Int) = (q : Int) := by rw [IntKind.wrap_u32]; omega
 have x5 : (q : Int) % 4294967296 = (q : Int) := by omega
 rw [← hq]
 clear hq hq2
 go_enter Tryz.func20, Tryz.ntmps20
 go_wp2
 go_ret
 exact ⟨rfl, rfl⟩
set_option maxHeartbeats 2000000 in
theorem rspFit9 (vm vc vp : Value) (bs st en : Nat) (ms cs ps : List (Nat × Int)) (w : World) (hsl : SlG w vm vc vp ms cs ps) (hrc : ∀ y ∈ cs, y.1 < 18446744073709551616) (hbs : bs < 18446744073709551616) :
  Calls Tryz.prog 9 #[.agg #[vm, vc, .int .u64 (bs : Int), vp, .int .u32 (st : Int), .int .u32 (en : Int)]] w fun e w' => e = .returned (.bool (spFit ms cs ps bs st en)) ∧ Below w.heap.size w w' := by
 obtain ⟨am, pm, rfl, _⟩ := id hsl.1
 obtain ⟨ac, pc, rfl, _⟩ := id hsl.2.1
 obtain ⟨ap, pp, rfl, _⟩ := id hsl.2.2
 obtain ⟨nm, hnm⟩ : ∃ z, z = ms.length := ⟨_, rfl⟩
 obtain ⟨nc, hnc⟩ : ∃ z, z = cs.length := ⟨_, rfl⟩
 obtain ⟨np, hnp⟩ : ∃ z, z = ps.length := ⟨_, rfl⟩
 rw [← hnm, ← hnc, ← hnp] at hsl ⊢
 have HLN : Hid (nm = ms.length ∧ nc = cs.length ∧ np = ps.length) := ⟨hnm, hnc, hnp⟩
 clear hnm hnc hnp
 obtain ⟨X, hX⟩ : ∃ z, w.alloc (.cells #[.slice am nm pm, .slice ac nc pc, .int .u64 (bs : Int), .slice ap np pp, .int .u32 (st : Int), .int .u32 (en : Int)] 32) = z := ⟨_, rfl⟩
 have BG : B6 X w.heap.size 32 (.slice am nm pm) (.slice ac nc pc) (.int .u64 (bs : Int)) (.slice ap np pp) (.int .u32 (st : Int)) (.int .u32 (en : Int)) := by rw [← hX]; exact B6.new w 32 _ _ _ _ _ _
 have hb : Below w.heap.size w X := by rw [← hX]; exact (Below.refl _ _).alloc (Nat.le_refl _) _
 obtain ⟨c0, c1, c2, c3, c4, c5⟩ := BG.cells
 have KF := rfit11 _ _ _ ms cs ps bs X (hsl.keep hb) hrc hbs
 obtain ⟨r, hr⟩ : ∃ z, z = st % 4096 := ⟨_, rfl⟩
 have x1 : (st : Int) % 4096 = (r : Int) := by omega
 have x1' : (st : Int).tmod 4096 = (r : Int) := by rw [Int.tmod_eq_emod_of_nonneg (by omega)]; omega
 obtain ⟨B, hB⟩ : ∃ z, z = spFit ms cs ps bs st en := ⟨_, rfl⟩
 obtain ⟨G, hG⟩ : ∃ z, z = fitGB ms cs ps bs := ⟨_, rfl⟩
 rw [← hG] at KF
 rw [← hB]
 have HB : Hid (B = (G && decide (r = 0) && decide (st ≤ en))) := by show _ = _; rw [hB, spFit, ← hG, ← hr]
 clear hB hG hr hsl HLN hrc
 cases G with
 | false =>
  have HF : Hid (B = false) := HB.out
  go_enter Tryz.func9, Tryz.ntmps9
  go_wp2_with fail
  refine KF.mono ?_
  rintro e w1 ⟨rfl, hb1⟩
  go_wp2
  go_ret
  exact ⟨by rw [HF.out]; rfl, below_tr hb hb1⟩
 | true =>
  by_cases h0 : r = 0
  ·subst h0
   by_cases h1 : st ≤ en
   ·have HF : Hid (B = true) := by have h := HB.out; show _ = _; simpa [h1] using h
    have h1' : (st : Int) ≤ (en : Int) := by omega
    go_enter Tryz.func9, Tryz.ntmps9
    go_wp2_with fail
    refine KF.mono ?_
    rintro e w1 ⟨rfl, hb1⟩
    have c4 := keep_cell hb1 c4
    have c5 := keep_cell hb1 c5
    go_wp2
    go_ret
    exact ⟨by rw [HF.out]; rfl, below_tr hb hb1⟩
   ·have HF : Hid (B = false) := by have h := HB.out; show _ = _; simpa [h1] using h
    have h1' : decide ((st : Int) ≤ (en : Int)) = false := by simp; omega
    have h1'' : (st ≤ en) = False := by simp; omega
    go_enter Tryz.func9, Tryz.ntmps9
    go_wp2_with fail
    refine KF.mono ?_
    rintro e w1 ⟨rfl, hb1⟩
    have c4 := keep_cell hb1 c4
    have c5 := keep_cell hb1 c5
    go_wp2
    go_ret
    exact ⟨by rw [HF.out]; rfl, below_tr hb hb1⟩
  ·have HF : Hid (B = false) := by have h := HB.out; show _ = _; simpa [h0] using h
   have h01 : ((r : Int) == 0) = false := by simp; omega
   have h02 : ((r : Int) = 0) = False := by simp; omega
   have h03 : (r = 0) = False := by simp [h0]
   go_enter Tryz.func9, Tryz.ntmps9
   go_wp2_with fail
   refine KF.mono ?_
   rintro e w1 ⟨rfl, hb1⟩
   have c4 := keep_cell hb1 c4
   have c5 := keep_cell hb1 c5
   go_wp2
   go_ret
   exact ⟨by rw [HF.out]; rfl, below_tr hb hb1⟩
set_option maxHeartbeats 2000000 in
theorem rspSame19 (vm vc vp vm' vc' vp' : Value) (bs st en bs' st' en' : Nat) (ms cs ps ms' cs' ps' : List (Nat × Int)) (w : World) (hsl : SlG w vm vc vp ms cs ps) (hsl' : SlG w vm' vc' vp' ms' cs' ps') :
  Calls Tryz.prog 19 #[.agg #[vm, vc, .int .u64 (bs : Int), vp, .int .u32 (st : Int), .int .u32 (en : Int)], .agg #[vm', vc', .int .u64 (bs' : Int), vp', .int .u32 (st' : Int), .int .u32 (en' : Int)]] w fun e w' => e = .returned (.bool (sameG ms cs ps bs ms' cs' ps' bs' && decide (st = st') && decide (en = en'))) ∧ Below w.heap.size w w' := by
 obtain ⟨am, pm, rfl, _⟩ := id hsl.1
 obtain ⟨ac, pc, rfl, _⟩ := id hsl.2.1
 obtain ⟨ap, pp, rfl, _⟩ := id hsl.2.2
 obtain ⟨nm, hnm⟩ : ∃ z, z = ms.length := ⟨_, rfl⟩
 obtain ⟨nc, hnc⟩ : ∃ z, z = cs.length := ⟨_, rfl⟩
 obtain ⟨np, hnp⟩ : ∃ z, z = ps.length := ⟨_, rfl⟩
 rw [← hnm, ← hnc, ← hnp] at hsl ⊢
 have HLN : Hid (nm = ms.length ∧ nc = cs.length ∧ np = ps.length) := ⟨hnm, hnc, hnp⟩
 clear hnm hnc hnp
 obtain ⟨X, hX⟩ : ∃ z, w.alloc (.cells #[.slice am nm pm, .slice ac nc pc, .int .u64 (bs : Int), .slice ap np pp, .int .u32 (st : Int), .int .u32 (en : Int)] 32) = z := ⟨_, rfl⟩
 have BG : B6 X w.heap.size 32 (.slice am nm pm) (.slice ac nc pc) (.int .u64 (bs : Int)) (.slice ap np pp) (.int .u32 (st : Int)) (.int .u32 (en : Int)) := by rw [← hX]; exact B6.new w 32 _ _ _ _ _ _
 have hb : Below w.heap.size w X := by rw [← hX]; exact (Below.refl _ _).alloc (Nat.le_refl _) _
 obtain ⟨c0, c1, c2, c3, c4, c5⟩ := BG.cells
 obtain ⟨am', pm', rfl, _⟩ := id hsl'.1
 obtain ⟨ac', pc', rfl, _⟩ := id hsl'.2.1
 obtain ⟨ap', pp', rfl, _⟩ := id hsl'.2.2
 obtain ⟨nm', hnm'⟩ : ∃ z, z = ms'.length := ⟨_, rfl⟩
 obtain ⟨nc', hnc'⟩ : ∃ z, z = cs'.length := ⟨_, rfl⟩
 obtain ⟨np', hnp'⟩ : ∃ z, z = ps'.length := ⟨_, rfl⟩
 rw [← hnm', ← hnc', ← hnp'] at hsl' ⊢
 clear hnm' hnc' hnp'
 obtain ⟨Y, hY⟩ : ∃ z, X.alloc (.cells #[.slice am' nm' pm', .slice ac' nc' pc', .int .u64 (bs' : Int), .slice ap' np' pp', .int .u32 (st' : Int), .int .u32 (en' : Int)] 32) = z := ⟨_, rfl⟩
 have BY : B6 Y X.heap.size 32 (.slice am' nm' pm') (.slice ac' nc' pc') (.int .u64 (bs' : Int)) (.slice ap' np' pp') (.int .u32 (st' : Int)) (.int .u32 (en' : Int)) := by rw [← hY]; exact B6.new X 32 _ _ _ _ _ _
 have hb2 : Below X.heap.size X Y := by rw [← hY]; exact (Below.refl _ _).alloc (Nat.le_refl _) _
 have BG := BG.keep hb2
 obtain ⟨nY, hnY⟩ : ∃ z, X.heap.size = z := ⟨_, rfl⟩
 rw [hnY] at BY
 obtain ⟨c0, c1, c2, c3, c4, c5⟩ := BG.cells
 obtain ⟨d0, d1, d2, d3, d4, d5⟩ := BY.cells
 have bW := below_tr hb hb2
 have KS := rsame13 _ _ _ _ _ _ ms cs ps ms' cs' ps' bs bs' Y (hsl.keep bW) (hsl'.keep bW)
 obtain ⟨G, hG⟩ : ∃ z, z = sameG ms cs ps bs ms' cs' ps' bs' := ⟨_, rfl⟩
 rw [← hG] at KS ⊢
 clear hG hsl hsl' HLN hb hb2 BG BY
 cases G with
 | false =>
  go_enter Tryz.func19, Tryz.ntmps19
  go_wp2_with fail
  refine KS.mono ?_
  rintro e w1 ⟨rfl, hb1⟩
  go_wp2
  go_ret
  exact ⟨rfl, below_tr bW hb1⟩
 | true =>
  by_cases h1 : st = st'
  ·subst h1
   by_cases h2 : en = en'
   ·subst h2
    have HT : Hid ((true && decide (st = st) && decide (en = en)) = true) := by show _ = _; simp
    go_enter Tryz.func19, Tryz.ntmps19
    go_wp2_with fail
    refine KS.mono ?_
    rintro e w1 ⟨rfl, hb1⟩
    have c4 := keep_cell hb1 c4
    have c5 := keep_cell hb1 c5
    have d4 := keep_cell hb1 d4
    have d5 := keep_cell hb1 d5
    go_wp2
    go_ret
    exact ⟨by rw [HT.out]; rfl, below_tr bW hb1⟩
   ·have HT : Hid ((true && decide (st = st) && decide (en = en')) = false) := by show _ = _; simp [h2]
    have h2' : ((en : Int) == (en' : Int)) = false := by simp; omega
    have h2'' : (en = en') = False := by simp [h2]
    have h2a : ((en : Int) = (en' : Int)) = False := by simp; omega
    go_enter Tryz.func19, Tryz.ntmps19
    go_wp2_with fail
    refine KS.mono ?_
    rintro e w1 ⟨rfl, hb1⟩
    have c4 := keep_cell hb1 c4
    have c5 := keep_cell hb1 c5
    have d4 := keep_cell hb1 d4
    have d5 := keep_cell hb1 d5
    go_wp2
    go_ret
    exact ⟨by rw [HT.out]; rfl, below_tr bW hb1⟩
  ·have HT : Hid ((true && decide (st = st') && decide (en = en')) = false) := by show _ = _; simp [h1]
   have h2' : ((st : Int) == (st' : Int)) = false := by simp; omega
   have h2'' : (st = st') = False := by simp [h1]
   have h2a : ((st : Int) = (st' : Int)) = False := by simp; omega
   go_enter Tryz.func19, Tryz.ntmps19
   go_wp2_with fail
   refine KS.mono ?_
   rintro e w1 ⟨rfl, hb1⟩
   have c4 := keep_cell hb1 c4
   have c5 := keep_cell hb1 c5
   have d4 := keep_cell hb1 d4
   have d5 := keep_cell hb1 d5
   go_wp2
   go_ret
   exact ⟨by rw [HT.out]; rfl, below_tr bW hb1⟩
set_option maxHeartbeats 2000000 in
theorem gspFit8 (vm vc vp : Value) (bs st en : Nat) (ms cs ps : List (Nat × Int)) (w : World) (hsl : SlG w vm vc vp ms cs ps) (hrc : ∀ y ∈ cs, y.1 < 18446744073709551616) (hbs : bs < 18446744073709551616) (hpn : ∀ y ∈ ps, y.1 < 4294967296) :
  Calls Tryz.prog 8 #[.agg #[vm, vc, .int .u64 (bs : Int), vp, .int .u32 (st : Int), .int .u32 (en : Int)]] w fun e w' => e = .returned (.bool (spFit ms cs ps bs st en)) ∧ Below w.heap.size w w' := by
 obtain ⟨am, pm, rfl, _⟩ := id hsl.1
 obtain ⟨ac, pc, rfl, _⟩ := id hsl.2.1
 obtain ⟨ap, pp, rfl, _⟩ := id hsl.2.2
 obtain ⟨nm, hnm⟩ : ∃ z, z = ms.length := ⟨_, rfl⟩
 obtain ⟨nc, hnc⟩ : ∃ z, z = cs.length := ⟨_, rfl⟩
 obtain ⟨np, hnp⟩ : ∃ z, z = ps.length := ⟨_, rfl⟩
 rw [← hnm, ← hnc, ← hnp] at hsl ⊢
 have HLN : Hid (nm = ms.length ∧ nc = cs.length ∧ np = ps.length) := ⟨hnm, hnc, hnp⟩
 clear hnm hnc hnp
 obtain ⟨X, hX⟩ : ∃ z, w.alloc (.cells #[.slice am nm pm, .slice ac nc pc, .int .u64 (bs : Int), .slice ap np pp, .int .u32 (st : Int), .int .u32 (en : Int)] 32) = z := ⟨_, rfl⟩
 have BG : B6 X w.heap.size 32 (.slice am nm pm) (.slice ac nc pc) (.int .u64 (bs : Int)) (.slice ap np pp) (.int .u32 (st : Int)) (.int .u32 (en : Int)) := by rw [← hX]; exact B6.new w 32 _ _ _ _ _ _
 have hb : Below w.heap.size w X := by rw [← hX]; exact (Below.refl _ _).alloc (Nat.le_refl _) _
 obtain ⟨c0, c1, c2, c3, c4, c5⟩ := BG.cells
 have KF := gfit10 _ _ _ ms cs ps bs X (hsl.keep hb) hrc hpn hbs
 clear hpn
 obtain ⟨r, hr⟩ : ∃ z, z = st % 4096 := ⟨_, rfl⟩
 have x1 : (st : Int) % 4096 = (r : Int) := by omega
 have x1' : (st : Int).tmod 4096 = (r : Int) := by rw [Int.tmod_eq_emod_of_nonneg (by omega)]; omega
 have K23 : Hid (∀ w', Calls Tryz.prog 23 #[.int .u32 (st : Int)] w' fun e w'' => e = .returned (.bool (decide (r = 0))) ∧ w'' = w') := fun w' => by rw [hr]; exact isPlace23 st w'
 obtain ⟨B, hB⟩ : ∃ z, z = spFit ms cs ps bs st en := ⟨_, rfl⟩
 obtain ⟨G, hG⟩ : ∃ z, z = fitGB ms cs ps bs := ⟨_, rfl⟩
 rw [← hG] at KF
 rw [← hB]
 have HB : Hid (B = (G && decide (r = 0) && decide (st ≤ en))) := by show _ = _; rw [hB, spFit, ← hG, ← hr]
 clear hB hG hr hsl HLN hrc
 cases G with
 | false =>
  have HF : Hid (B = false) := HB.out
  go_enter Tryz.func8, Tryz.ntmps8
  go_wp2_with fail
  refine KF.mono ?_
  rintro e w1 ⟨rfl, hb1⟩
  go_wp2
  go_ret
  exact ⟨by rw [HF.out]; rfl, below_tr hb hb1⟩
 | true =>
  by_cases h0 : r = 0
  ·subst h0
   by_cases h1 : st ≤ en
   ·have HF : Hid (B = true) := by have h := HB.out; show _ = _; simpa [h1] using h
    have h1' : (st : Int) ≤ (en : Int) := by omega
    go_enter Tryz.func8, Tryz.ntmps8
    go_wp2_with fail
    refine KF.mono ?_
    rintro e w1 ⟨rfl, hb1⟩
    have c4 := keep_cell hb1 c4
    have c5 := keep_cell hb1 c5
    go_wp2_with fail
    refine (K23.out _).mono ?_
    rintro e w2 ⟨rfl, rfl⟩
    go_wp2
    go_ret
    exact ⟨by rw [HF.out]; rfl, below_tr hb hb1⟩
   ·have HF : Hid (B = false) := by have h := HB.out; show _ = _; simpa [h1] using h
    have h1' : decide ((st : Int) ≤ (en : Int)) = false := by simp; omega
    have h1'' : (st ≤ en) = False := by simp; omega
    go_enter Tryz.func8, Tryz.ntmps8
    go_wp2_with fail
    refine KF.mono ?_
    rintro e w1 ⟨rfl, hb1⟩
    have c4 := keep_cell hb1 c4
    have c5 := keep_cell hb1 c5
    go_wp2_with fail
    refine (K23.out _).mono ?_
    rintro e w2 ⟨rfl, rfl⟩
    go_wp2
    go_ret
    exact ⟨by rw [HF.out]; rfl, below_tr hb hb1⟩
  ·have HF : Hid (B = false) := by have h := HB.out; show _ = _; simpa [h0] using h
   have h01 : ((r : Int) == 0) = false := by simp; omega
   have h02 : ((r : Int) = 0) = False := by simp; omega
   have h03 : (r = 0) = False := by simp [h0]
   rw [show decide (r = 0) = false from decide_eq_false h0] at K23
   go_enter Tryz.func8, Tryz.ntmps8
   go_wp2_with fail
   refine KF.mono ?_
   rintro e w1 ⟨rfl, hb1⟩
   have c4 := keep_cell hb1 c4
   have c5 := keep_cell hb1 c5
   go_wp2_with fail
   refine (K23.out _).mono ?_
   rintro e w2 ⟨rfl, rfl⟩
   go_wp2
   go_ret
   exact ⟨by rw [HF.out]; rfl, below_tr hb hb1⟩
set_option maxHeartbeats 2000000 in
theorem few7 (vm vc vp : Value) (bs st en : Nat) (ms cs ps : List (Nat × Int)) (w : World) (hsl : SlG w vm vc vp ms cs ps) :
  Calls Tryz.prog 7 #[.agg #[vm, vc, .int .u64 (bs : Int), vp, .int .u32 (st : Int), .int .u32 (en : Int)]] w fun e w' => e = .returned (.bool (decide (ms.length ≤ 70 ∧ cs.length ≤ 100 ∧ ps.length ≤ 80))) ∧ Below w.heap.size w w' := by
 obtain ⟨lm1, lc1, lp1⟩ : ms.length < 9223372036854775808 ∧ cs.length < 9223372036854775808 ∧ ps.length < 9223372036854775808 := by
  obtain ⟨_, _, _, h1, h2, _⟩ := id hsl.1
  obtain ⟨_, _, _, h3, h4, _⟩ := id hsl.2.1
  obtain ⟨_, _, _, h5, h6, _⟩ := id hsl.2.2
  omega
 obtain ⟨am, pm, rfl, _⟩ := id hsl.1
 obtain ⟨ac, pc, rfl, _⟩ := id hsl.2.1
 obtain ⟨ap, pp, rfl, _⟩ := id hsl.2.2
 obtain ⟨nm, hnm⟩ : ∃ z, z = ms.length := ⟨_, rfl⟩
 obtain ⟨nc, hnc⟩ : ∃ z, z = cs.length := ⟨_, rfl⟩
 obtain ⟨np, hnp⟩ : ∃ z, z = ps.length := ⟨_, rfl⟩
 rw [← hnm, ← hnc, ← hnp] at hsl ⊢
 have HLN : Hid (nm = ms.length ∧ nc = cs.length ∧ np = ps.length) := ⟨hnm, hnc, hnp⟩
 clear hnm hnc hnp
 obtain ⟨X, hX⟩ : ∃ z, w.alloc (.cells #[.slice am nm pm, .slice ac nc pc, .int .u64 (bs : Int), .slice ap np pp, .int .u32 (st : Int), .int .u32 (en : Int)] 32) = z := ⟨_, rfl⟩
 have BG : B6 X w.heap.size 32 (.slice am nm pm) (.slice ac nc pc) (.int .u64 (bs : Int)) (.slice ap np pp) (.int .u32 (st : Int)) (.int .u32 (en : Int)) := by rw [← hX]; exact B6.new w 32 _ _ _ _ _ _
 have hb : Below w.heap.size w X := by rw [← hX]; exact (Below.refl _ _).alloc (Nat.le_refl _) _
 obtain ⟨c0, c1, c2, c3, c4, c5⟩ := BG.cells
 rw [← HLN.out.1] at lm1
 rw [← HLN.out.2.1] at lc1
 rw [← HLN.out.2.2] at lp1
 obtain ⟨W2, hW2, hb2, hsz2, z0, z1, z2, z3, f0, f1, f2, f3⟩ := box4 X (.slice none 0 0) (.slice none 0 0) (.int .u64 0) (.slice none 0 0) 29
 obtain ⟨s0, s1, s2, s3⟩ := resG4 W2 X.heap.size (.slice am nm pm) (.slice ac nc pc) (.int .u64 (bs : Int)) (.slice ap np pp) f0 f1 f2 f3
 obtain ⟨nY, hnY⟩ : ∃ z, X.heap.size = z := ⟨_, rfl⟩
 rw [hnY] at z0 z1 z2 z3 s0 s1 s2 s3 f0 f1 f2 f3
 have f0 := f0.frozen
 have f1 := f1.frozen
 have f2 := f2.frozen
 have f3 := f3.frozen
 have c0 := c0
 have bY : Below w.heap.size w ((((W2.setCell ⟨nY, 0, none⟩ (.slice am nm pm)).setCell ⟨nY, 1, none⟩ (.slice ac nc pc)).setCell ⟨nY, 2, none⟩ (.int .u64 (bs : Int))).setCell ⟨nY, 3, none⟩ (.slice ap np pp)) := by
  have h0 := below_tr hb hb2
  have h1 : w.heap.size ≤ nY := by rw [← hnY]; exact hb.size
  exact (((h0.setCell h1 _).setCell h1 _).setCell h1 _).setCell h1 _
 obtain ⟨W3, hW3⟩ : ∃ z, (((W2.setCell ⟨nY, 0, none⟩ (.slice am nm pm)).setCell ⟨nY, 1, none⟩ (.slice ac nc pc)).setCell ⟨nY, 2, none⟩ (.int .u64 (bs : Int))).setCell ⟨nY, 3, none⟩ (.slice ap np pp) = z := ⟨_, rfl⟩
 rw [hW3] at s0 s1 s2 s3 bY
 clear hsl HLN hb BG hsz2 hb2
 by_cases h1 : nm ≤ 70
 ·by_cases h2 : nc ≤ 100
  ·by_cases h3 : np ≤ 80
   ·have HD : Hid (decide (nm ≤ 70 ∧ nc ≤ 100 ∧ np ≤ 80) = true) := decide_eq_true ⟨h1, h2, h3⟩
    have i1 : (nm : Int) ≤ 70 := by omega
    have i2 : (nc : Int) ≤ 100 := by omega
    have i3 : (np : Int) ≤ 80 := by omega
    go_enter Tryz.func7, Tryz.ntmps7
    go_wp2
    go_ret
    exact ⟨by rw [HD.out]; rfl, bY⟩
   ·have HD : Hid (decide (nm ≤ 70 ∧ nc ≤ 100 ∧ np ≤ 80) = false) := decide_eq_false (fun h => h3 h.2.2)
    have i1 : (nm : Int) ≤ 70 := by omega
    have i2 : (nc : Int) ≤ 100 := by omega
    have i3 : decide ((np : Int) ≤ 80) = false := decide_eq_false (by omega)
    have i3' : (np ≤ 80) = False := eq_false h3
    go_enter Tryz.func7, Tryz.ntmps7
    go_wp2
    go_ret
    exact ⟨by rw [HD.out]; rfl, bY⟩
  ·have HD : Hid (decide (nm ≤ 70 ∧ nc ≤ 100 ∧ np ≤ 80) = false) := decide_eq_false (fun h => h2 h.2.1)
   have i1 : (nm : Int) ≤ 70 := by omega
   have i2 : decide ((nc : Int) ≤ 100) = false := decide_eq_false (by omega)
   have i2' : (nc ≤ 100) = False := eq_false h2
   go_enter Tryz.func7, Tryz.ntmps7
   go_wp2
   go_ret
   exact ⟨by rw [HD.out]; rfl, bY⟩
 ·have HD : Hid (decide (nm ≤ 70 ∧ nc ≤ 100 ∧ np ≤ 80) = false) := decide_eq_false (fun h => h1 h.1)
  have i1 : decide ((nm : Int) ≤ 70) = false := decide_eq_false (by omega)
  have i1' : (nm ≤ 70) = False := eq_false h1
  go_enter Tryz.func7, Tryz.ntmps7
  go_wp2
  go_ret
  exact ⟨by rw [HD.out]; rfl, bY⟩
end Go.Proofs.YtkpmkgkfpikpfaaGreat
