/- What is proved here: the document's Put, Poke and Store. -/
import Derived.Test.YtdhjmghfiodifaaGrs
import Derived.Test.YtdhjmghfiodifaaGpu
namespace Go.Proofs.Ytdhjmghfiodifaa
open Go.RowKit
set_option linter.unusedVariables false
set_option linter.unusedSimpArgs false
set_option maxRecDepth 100000
theorem pg_set {k : IntKind} {w : World} {v : Value} {xs : List (Nat × Int)} {n t i : Nat} {a0 a1 a3 : Option Addr} {b0 d0 b1 d1 b3 d3 : Nat} {z : Int} (h : Pg.Sl k w v xs) (hB : B4 w n t (.slice a0 b0 d0) (.slice a1 b1 d1) (.int .u64 z) (.slice a3 b3 d3)) (y : Value) : Pg.Sl k (w.setCell ⟨n, i, none⟩ y) v xs := by
  obtain ⟨a, cap, e, h1, h2, h3, h4⟩ := h
  refine ⟨a, cap, e, h1, h2, h3, fun j hj => ?_⟩
  obtain ⟨b, o, e1, e2, e3⟩ := h4 j hj
  have hne : b ≠ n := by
    rintro rfl
    rw [B4] at hB
    simp only [World.cell?, hB] at e2 e3
    rcases Nat.lt_or_ge (o + j * 2) 4 with c | c
    · have hc : o + j * 2 = 0 ∨ o + j * 2 = 1 ∨ o + j * 2 = 2 ∨ o + j * 2 = 3 := by omega
      rcases hc with c | c | c | c
      · simp [c] at e2
      · simp [c] at e2
      · simp [c] at e2
      · simp [c] at e2
    · simp [c] at e2
  exact ⟨b, o, e1, by rw [World.cell?_setCell_other _ _ _ _ (by simp [hne])]; exact e2, by rw [World.cell?_setCell_other _ _ _ _ (by simp [hne])]; exact e3⟩
theorem pg_setF {k : IntKind} {w : World} {v : Value} {xs : List (Nat × Int)} {n t i : Nat} {f0 f1 : Int} (h : Pg.Sl k w v xs) (hB : B2 w n t (.int .i64 f0) (.int .u64 f1)) (y : Value) : Pg.Sl k (w.setCell ⟨n, i, none⟩ y) v xs := by
  obtain ⟨a, cap, e, h1, h2, h3, h4⟩ := h
  refine ⟨a, cap, e, h1, h2, h3, fun j hj => ?_⟩
  obtain ⟨b, o, e1, e2, e3⟩ := h4 j hj
  have hne : b ≠ n := by
    rintro rfl
    rw [B2] at hB
    simp only [World.cell?, hB] at e2 e3
    rcases Nat.lt_or_ge (o + j * 2) 2 with c | c
    · have hc : o + j * 2 = 0 ∨ o + j * 2 = 1 := by omega
      rcases hc with c | c
      · simp [c] at e2
      · simp [c] at e2
    · simp [c] at e2
  exact ⟨b, o, e1, by rw [World.cell?_setCell_other _ _ _ _ (by simp [hne])]; exact e2, by rw [World.cell?_setCell_other _ _ _ _ (by simp [hne])]; exact e3⟩
theorem slg_set {w : World} {v0 v1 v3 : Value} {ms cs ps : List (Nat × Int)} {n t i : Nat} {a0 a1 a3 : Option Addr} {b0 d0 b1 d1 b3 d3 : Nat} {z : Int} (h : SlG w v0 v1 v3 ms cs ps) (hB : B4 w n t (.slice a0 b0 d0) (.slice a1 b1 d1) (.int .u64 z) (.slice a3 b3 d3)) (y : Value) : SlG (w.setCell ⟨n, i, none⟩ y) v0 v1 v3 ms cs ps := ⟨sl_set h.1 hB y, sl_set h.2.1 hB y, pg_set h.2.2 hB y⟩
theorem slg_setF {w : World} {v0 v1 v3 : Value} {ms cs ps : List (Nat × Int)} {n t i : Nat} {f0 f1 : Int} (h : SlG w v0 v1 v3 ms cs ps) (hB : B2 w n t (.int .i64 f0) (.int .u64 f1)) (y : Value) : SlG (w.setCell ⟨n, i, none⟩ y) v0 v1 v3 ms cs ps := ⟨sl_setF h.1 hB y, sl_setF h.2.1 hB y, pg_setF h.2.2 hB y⟩
/-- A memory's lists stay where results are stored. -/
theorem slg_res {wr Wc Wd : World} {u0 u1 u3 : Value} {ms cs ps : List (Nat × Int)} {nR nF : Nat} {am ac ap : Option Addr} {nm pm nc pc np pp : Nat} {z : Int} {kd : Int} {y : Value} (h : SlG wr u0 u1 u3 ms cs ps) (hR : B4 wr nR 29 (.slice none 0 0) (.slice none 0 0) (.int .u64 0) (.slice none 0 0))
    (hWc : (((wr.setCell ⟨nR, 0, none⟩ (.slice am nm pm)).setCell ⟨nR, 1, none⟩ (.slice ac nc pc)).setCell ⟨nR, 2, none⟩ (.int .u64 z)).setCell ⟨nR, 3, none⟩ (.slice ap np pp) = Wc) (hF : B2 Wc nF 34 (.int .i64 0) (.int .u64 0)) (hWd : (Wc.setCell ⟨nF, 0, none⟩ (.int .i64 kd)).setCell ⟨nF, 1, none⟩ y = Wd) : SlG Wd u0 u1 u3 ms cs ps := by
  have s1 := slg_set (i := 0) h hR (.slice am nm pm)
  have B1 := heap_setCell_same wr nR 0 _ 29 (.slice am nm pm) hR
  have s2 := slg_set (i := 1) (t := 29) (z := 0) (a0 := am) (b0 := nm) (d0 := pm) (a1 := none) (b1 := 0) (d1 := 0) (a3 := none) (b3 := 0) (d3 := 0) s1 B1 (.slice ac nc pc)
  have B2' := heap_setCell_same _ nR 1 _ 29 (.slice ac nc pc) B1
  have s3 := slg_set (i := 2) (t := 29) (z := 0) (a0 := am) (b0 := nm) (d0 := pm) (a1 := ac) (b1 := nc) (d1 := pc) (a3 := none) (b3 := 0) (d3 := 0) s2 B2' (.int .u64 z)
  have B3' := heap_setCell_same _ nR 2 _ 29 (.int .u64 z) B2'
  have s4 := slg_set (i := 3) (t := 29) (z := z) (a0 := am) (b0 := nm) (d0 := pm) (a1 := ac) (b1 := nc) (d1 := pc) (a3 := none) (b3 := 0) (d3 := 0) s3 B3' (.slice ap np pp)
  rw [hWc] at s4
  rw [← hWd]
  exact slg_setF (f0 := kd) (f1 := 0) (t := 34) (slg_setF s4 hF _) (heap_setCell_same _ nF 0 _ 34 (.int .i64 kd) hF) _
set_option maxHeartbeats 2000000 in
theorem rput19 (vm vc vp : Value) (bs a : Nat) (s : ByteArray) (ms cs ps : List (Nat × Int)) (w : World) (hsl : SlG w vm vc vp ms cs ps) (hf : FitG ms cs ps bs) (hw : Words cs) (hrc : ∀ y ∈ cs, y.1 < 18446744073709551616) (ha : a < 4294967296) (hs : s.size ≤ 300) (hfew : cs.length ≤ 100) :
    Calls Try.prog 19 #[.agg #[vm, vc, .int .u64 (bs : Int), vp], .int .u32 (a : Int), .string s] w fun e w' => ∃ vm' vc' vp', e = .returned (.tuple #[.agg #[vm', vc', .int .u64 (bs : Int), vp'], .agg #[.int .i64 (ffN ps a s.size 2).1, .int .u64 ((ffN ps a s.size 2).2 : Int)]]) ∧ SlG w' vm' vc' vp' ms (chL cs ps bs a s 2) ps ∧ Below w.heap.size w w' := by
  obtain ⟨am, pm, rfl, _⟩ := id hsl.1
  obtain ⟨ac, pc, rfl, _⟩ := id hsl.2.1
  obtain ⟨ap, pp, rfl, _⟩ := id hsl.2.2
  obtain ⟨nm, hnm⟩ : ∃ z, z = ms.length := ⟨_, rfl⟩
  obtain ⟨nc, hnc⟩ : ∃ z, z = cs.length := ⟨_, rfl⟩
  obtain ⟨np, hnp⟩ : ∃ z, z = ps.length := ⟨_, rfl⟩
  rw [← hnm, ← hnc, ← hnp] at hsl ⊢
  clear hnm hnc hnp
  obtain ⟨Xa, Xb, X, nR, nF, hXa, hXb, hX, hnR, hnF, BG, BR, BF, hb, l1, l2, l3⟩ := new3 w (.slice am nm pm) (.slice ac nc pc) (.int .u64 (bs : Int)) (.slice ap np pp)
  obtain ⟨nG, hnG⟩ : ∃ z, w.heap.size = z := ⟨_, rfl⟩
  rw [hnG] at BG l1
  obtain ⟨c0, c1, c2, c3⟩ := BG.cells
  have HNE : Hid (w.heap.size = nG ∧ nG < nR ∧ nR < nF ∧ nF < X.heap.size) := ⟨hnG, l1, l2, l3⟩
  have K := rput43 (.slice am nm pm) (.slice ac nc pc) (.slice ap np pp) bs a s 2 ms cs ps X (hsl.keep hb) hf hw hrc ha hs hfew (Or.inr (Or.inr (Or.inl rfl)))
  obtain ⟨kd, hkd⟩ : ∃ z, z = (ffN ps a s.size 2).1 := ⟨_, rfl⟩
  obtain ⟨fa, hfa⟩ : ∃ z, z = (ffN ps a s.size 2).2 := ⟨_, rfl⟩
  obtain ⟨CH, hCH⟩ : ∃ z, z = chL cs ps bs a s 2 := ⟨_, rfl⟩
  rw [← hkd, ← hfa, ← hCH] at K ⊢
  have HB : Hid (Below w.heap.size w X) := hb
  clear hkd hfa hCH hsl hf hw hrc hb
  go_enter Try.func19, Try.ntmps19
  go_wp2_with fail
  refine K.mono ?_
  rintro e w1 ⟨vm', vc', vp', rfl, hs1, hb1⟩
  clear K
  obtain ⟨am', pm', rfl, _⟩ := id hs1.1
  obtain ⟨ac', pc', rfl, _⟩ := id hs1.2.1
  obtain ⟨ap', pp', rfl, _⟩ := id hs1.2.2
  obtain ⟨nm', hnm'⟩ : ∃ z, z = ms.length := ⟨_, rfl⟩
  obtain ⟨nc', hnc'⟩ : ∃ z, z = CH.length := ⟨_, rfl⟩
  obtain ⟨np', hnp'⟩ : ∃ z, z = ps.length := ⟨_, rfl⟩
  rw [← hnm', ← hnc', ← hnp'] at hs1 ⊢
  clear hnm' hnc' hnp'
  obtain ⟨Wc, Wd, hWc, hWd, bFc, BR2, BF2, bW2⟩ := res42 (w := w) (BR.keep hb1) (BF.keep hb1) (by have := HNE.out; omega) (below_tr HB.out hb1) (by have := HNE.out; omega) (by have := HNE.out; omega) (.slice am' nm' pm') (.slice ac' nc' pc') (.int .u64 (bs : Int)) (.slice ap' np' pp') (.int .i64 kd) (.int .u64 (fa : Int))
  obtain ⟨z0, z1, z2, z3⟩ := (BR.keep hb1).cells
  obtain ⟨f0, f1, f2, f3⟩ := (BR.keep hb1).frees
  have g0 := bFc.c0
  have g1 := bFc.c1
  have g2 := bFc.f0
  have g3 := bFc.f1
  have HRES := slg_res (kd := kd) hs1 (BR.keep hb1) hWc bFc hWd
  have HRS : Hid _ := HRES
  have HBR : Hid _ := BR2
  have HBF : Hid _ := BF2
  clear bFc HRES BR BF BG BR2 BF2
  clear hs1
  go_wp2
  obtain ⟨u0, u1, u2, u3⟩ := (show B4 Wd nR 29 (.slice am' nm' pm') (.slice ac' nc' pc') (.int .u64 (bs : Int)) (.slice ap' np' pp') from HBR.out).cells
  have v0 := (show B2 Wd nF 34 (.int .i64 kd) (.int .u64 (fa : Int)) from HBF.out).c0
  have v1 := (show B2 Wd nF 34 (.int .i64 kd) (.int .u64 (fa : Int)) from HBF.out).c1
  refine bodyPost_ret (v := .tuple #[.agg #[.slice am' nm' pm', .slice ac' nc' pc', .int .u64 (bs : Int), .slice ap' np' pp'], .agg #[.int .i64 kd, .int .u64 (fa : Int)]]) ?_ rfl ⟨_, _, _, rfl, HRS.out, bW2⟩
  rw [results_cells rfl]; simp [go_sem, u0, u1, u2, u3, v0, v1]
set_option maxHeartbeats 2000000 in
theorem rpoke21 (vm vc vp : Value) (bs a : Nat) (s : ByteArray) (ms cs ps : List (Nat × Int)) (w : World) (hsl : SlG w vm vc vp ms cs ps) (hf : FitG ms cs ps bs) (hw : Words cs) (hrc : ∀ y ∈ cs, y.1 < 18446744073709551616) (ha : a < 4294967296) (hs : s.size ≤ 300) (hfew : cs.length ≤ 100) :
    Calls Try.prog 21 #[.agg #[vm, vc, .int .u64 (bs : Int), vp], .int .u32 (a : Int), .string s] w fun e w' => ∃ vm' vc' vp', e = .returned (.tuple #[.agg #[vm', vc', .int .u64 (bs : Int), vp'], .agg #[.int .i64 (ffN ps a s.size 0).1, .int .u64 ((ffN ps a s.size 0).2 : Int)]]) ∧ SlG w' vm' vc' vp' ms (chL cs ps bs a s 0) ps ∧ Below w.heap.size w w' := by
  obtain ⟨am, pm, rfl, _⟩ := id hsl.1
  obtain ⟨ac, pc, rfl, _⟩ := id hsl.2.1
  obtain ⟨ap, pp, rfl, _⟩ := id hsl.2.2
  obtain ⟨nm, hnm⟩ : ∃ z, z = ms.length := ⟨_, rfl⟩
  obtain ⟨nc, hnc⟩ : ∃ z, z = cs.length := ⟨_, rfl⟩
  obtain ⟨np, hnp⟩ : ∃ z, z = ps.length := ⟨_, rfl⟩
  rw [← hnm, ← hnc, ← hnp] at hsl ⊢
  clear hnm hnc hnp
  obtain ⟨Xa, Xb, X, nR, nF, hXa, hXb, hX, hnR, hnF, BG, BR, BF, hb, l1, l2, l3⟩ := new3 w (.slice am nm pm) (.slice ac nc pc) (.int .u64 (bs : Int)) (.slice ap np pp)
  obtain ⟨nG, hnG⟩ : ∃ z, w.heap.size = z := ⟨_, rfl⟩
  rw [hnG] at BG l1
  obtain ⟨c0, c1, c2, c3⟩ := BG.cells
  have HNE : Hid (w.heap.size = nG ∧ nG < nR ∧ nR < nF ∧ nF < X.heap.size) := ⟨hnG, l1, l2, l3⟩
  have K := rput43 (.slice am nm pm) (.slice ac nc pc) (.slice ap np pp) bs a s 0 ms cs ps X (hsl.keep hb) hf hw hrc ha hs hfew (Or.inl rfl)
  obtain ⟨kd, hkd⟩ : ∃ z, z = (ffN ps a s.size 0).1 := ⟨_, rfl⟩
  obtain ⟨fa, hfa⟩ : ∃ z, z = (ffN ps a s.size 0).2 := ⟨_, rfl⟩
  obtain ⟨CH, hCH⟩ : ∃ z, z = chL cs ps bs a s 0 := ⟨_, rfl⟩
  rw [← hkd, ← hfa, ← hCH] at K ⊢
  have HB : Hid (Below w.heap.size w X) := hb
  clear hkd hfa hCH hsl hf hw hrc hb
  go_enter Try.func21, Try.ntmps21
  go_wp2_with fail
  refine K.mono ?_
  rintro e w1 ⟨vm', vc', vp', rfl, hs1, hb1⟩
  clear K
  obtain ⟨am', pm', rfl, _⟩ := id hs1.1
  obtain ⟨ac', pc', rfl, _⟩ := id hs1.2.1
  obtain ⟨ap', pp', rfl, _⟩ := id hs1.2.2
  obtain ⟨nm', hnm'⟩ : ∃ z, z = ms.length := ⟨_, rfl⟩
  obtain ⟨nc', hnc'⟩ : ∃ z, z = CH.length := ⟨_, rfl⟩
  obtain ⟨np', hnp'⟩ : ∃ z, z = ps.length := ⟨_, rfl⟩
  rw [← hnm', ← hnc', ← hnp'] at hs1 ⊢
  clear hnm' hnc' hnp'
  obtain ⟨Wc, Wd, hWc, hWd, bFc, BR2, BF2, bW2⟩ := res42 (w := w) (BR.keep hb1) (BF.keep hb1) (by have := HNE.out; omega) (below_tr HB.out hb1) (by have := HNE.out; omega) (by have := HNE.out; omega) (.slice am' nm' pm') (.slice ac' nc' pc') (.int .u64 (bs : Int)) (.slice ap' np' pp') (.int .i64 kd) (.int .u64 (fa : Int))
  obtain ⟨z0, z1, z2, z3⟩ := (BR.keep hb1).cells
  obtain ⟨f0, f1, f2, f3⟩ := (BR.keep hb1).frees
  have g0 := bFc.c0
  have g1 := bFc.c1
  have g2 := bFc.f0
  have g3 := bFc.f1
  have HRES := slg_res (kd := kd) hs1 (BR.keep hb1) hWc bFc hWd
  have HRS : Hid _ := HRES
  have HBR : Hid _ := BR2
  have HBF : Hid _ := BF2
  clear bFc HRES BR BF BG BR2 BF2
  clear hs1
  go_wp2
  obtain ⟨u0, u1, u2, u3⟩ := (show B4 Wd nR 29 (.slice am' nm' pm') (.slice ac' nc' pc') (.int .u64 (bs : Int)) (.slice ap' np' pp') from HBR.out).cells
  have v0 := (show B2 Wd nF 34 (.int .i64 kd) (.int .u64 (fa : Int)) from HBF.out).c0
  have v1 := (show B2 Wd nF 34 (.int .i64 kd) (.int .u64 (fa : Int)) from HBF.out).c1
  refine bodyPost_ret (v := .tuple #[.agg #[.slice am' nm' pm', .slice ac' nc' pc', .int .u64 (bs : Int), .slice ap' np' pp'], .agg #[.int .i64 kd, .int .u64 (fa : Int)]]) ?_ rfl ⟨_, _, _, rfl, HRS.out, bW2⟩
  rw [results_cells rfl]; simp [go_sem, u0, u1, u2, u3, v0, v1]
set_option maxHeartbeats 4000000 in
theorem rstoreN23 (vm vc vp : Value) (bs a v : Nat) (n : Int) (ms cs ps : List (Nat × Int)) (w : World) (hsl : SlG w vm vc vp ms cs ps) (hf : FitG ms cs ps bs) (hw : Words cs) (hrc : ∀ y ∈ cs, y.1 < 18446744073709551616) (ha : a < 4294967296) (hv : v < 18446744073709551616) (hfew : cs.length ≤ 100) :
    Calls Try.prog 23 #[.agg #[vm, vc, .int .u64 (bs : Int), vp], .int .u32 (a : Int), .int .i64 n, .int .u64 (v : Int)] w fun e w' => ∃ vm' vc' vp', e = .returned (.tuple #[.agg #[vm', vc', .int .u64 (bs : Int), vp'], .agg #[.int .i64 (stF ps a n v).1, .int .u64 ((stF ps a n v).2 : Int)]]) ∧ SlG w' vm' vc' vp' ms (stC cs ps bs a n v) ps ∧ Below w.heap.size w w' := by
  obtain ⟨am, pm, rfl, _⟩ := id hsl.1
  obtain ⟨ac, pc, rfl, _⟩ := id hsl.2.1
  obtain ⟨ap, pp, rfl, _⟩ := id hsl.2.2
  obtain ⟨nm, hnm⟩ : ∃ z, z = ms.length := ⟨_, rfl⟩
  obtain ⟨nc, hnc⟩ : ∃ z, z = cs.length := ⟨_, rfl⟩
  obtain ⟨np, hnp⟩ : ∃ z, z = ps.length := ⟨_, rfl⟩
  rw [← hnm, ← hnc, ← hnp] at hsl ⊢
  clear hnm hnc hnp
  obtain ⟨Xa, Xb, X, nR, nF, hXa, hXb, hX, hnR, hnF, BG, BR, BF, hb, l1, l2, l3⟩ := new3 w (.slice am nm pm) (.slice ac nc pc) (.int .u64 (bs : Int)) (.slice ap np pp)
  obtain ⟨nG, hnG⟩ : ∃ z, w.heap.size = z := ⟨_, rfl⟩
  rw [hnG] at BG l1
  obtain ⟨c0, c1, c2, c3⟩ := BG.cells
  have HNE : Hid (w.heap.size = nG ∧ nG < nR ∧ nR < nF ∧ nF < X.heap.size) := ⟨hnG, l1, l2, l3⟩
  have K36 := sized36 n X
  have HB : Hid (Below w.heap.size w X) := hb
  cases hi : isW n with
  | false =>
    have HV : Hid (stF ps a n v = (0, 0) ∧ stC cs ps bs a n v = cs) := by refine ⟨?_, ?_⟩ <;> simp [stF, stC, hi]
    rw [hi] at K36
    have hs1 := hsl.keep hb
    obtain ⟨F, hF⟩ : ∃ z, z = stF ps a n v := ⟨_, rfl⟩
    obtain ⟨CH, hCH⟩ : ∃ z, z = stC cs ps bs a n v := ⟨_, rfl⟩
    rw [← hF, ← hCH] at HV ⊢
    obtain ⟨kd, fa⟩ := F
    simp only at HV ⊢
    clear hF hCH hsl hi hf hw hrc hb
    go_enter Try.func23, Try.ntmps23
    go_wp2_with fail
    refine K36.mono ?_
    rintro e wz ⟨rfl, rfl⟩
    clear K36
    obtain ⟨Wc, Wd, hWc, hWd, bFc, BR2, BF2, bW2⟩ := res42 (w := w) (BR.keep (Below.refl _ _)) (BF.keep (Below.refl _ _)) (by have := HNE.out; omega) (below_tr HB.out (Below.refl _ _)) (by have := HNE.out; omega) (by have := HNE.out; omega) (.slice am nm pm) (.slice ac nc pc) (.int .u64 (bs : Int)) (.slice ap np pp) (.int .i64 0) (.int .u64 0)
    obtain ⟨z0, z1, z2, z3⟩ := (BR.keep (Below.refl _ _)).cells
    obtain ⟨f0, f1, f2, f3⟩ := (BR.keep (Below.refl _ _)).frees
    have g0 := bFc.c0
    have g1 := bFc.c1
    have g2 := bFc.f0
    have g3 := bFc.f1
    have HRES := slg_res (kd := 0) hs1 (BR.keep (Below.refl _ _)) hWc bFc hWd
    have HRS : Hid _ := HRES
    have HBR : Hid _ := BR2
    have HBF : Hid _ := BF2
    clear bFc HRES BR BF BG BR2 BF2
    clear hs1
    go_wp2
    obtain ⟨u0, u1, u2, u3⟩ := (show B4 Wd nR 29 (.slice am nm pm) (.slice ac nc pc) (.int .u64 (bs : Int)) (.slice ap np pp) from HBR.out).cells
    have v0 := (show B2 Wd nF 34 (.int .i64 0) (.int .u64 0) from HBF.out).c0
    have v1 := (show B2 Wd nF 34 (.int .i64 0) (.int .u64 0) from HBF.out).c1
    refine bodyPost_ret (v := .tuple #[.agg #[.slice am nm pm, .slice ac nc pc, .int .u64 (bs : Int), .slice ap np pp], .agg #[.int .i64 0, .int .u64 0]]) ?_ rfl ⟨_, _, _, by obtain ⟨rfl, rfl⟩ : kd = 0 ∧ fa = 0 := (by simpa using HV.out.1); rfl, by rw [HV.out.2]; exact HRS.out, bW2⟩
    rw [results_cells rfl]; simp [go_sem, u0, u1, u2, u3, v0, v1]
  | true =>
    have hn8 : 1 ≤ n ∧ n ≤ 8 := by
      have h : n = 1 ∨ n = 2 ∨ n = 4 ∨ n = 8 := by simpa [isW, or_assoc] using hi
      omega
    obtain ⟨str, hstr⟩ : ∃ z, z = Go.Proofs.Ytdhjmghfiodifaa.W.putBeS v n := ⟨_, rfl⟩
    have hsz : str.size ≤ 300 := by
      rw [hstr, W.putBeS, if_pos (by omega)]
      show ((W.leB v n.toNat).reverse.toArray).size ≤ 300
      rw [List.size_toArray, List.length_reverse, W.leB_length]
      omega
    have K46 : Hid (∀ w', Calls Try.prog 46 #[.int .u64 (v : Int), .int .i64 n] w' fun e w'' => e = .returned (.string str) ∧ Below w'.heap.size w' w'') := fun w' => by rw [hstr]; exact W.rputBe_any v hv n w'
    obtain ⟨CH, hCH⟩ : ∃ z, z = stC cs ps bs a n v := ⟨_, rfl⟩
    obtain ⟨kd, hkd⟩ : ∃ z, z = (stF ps a n v).1 := ⟨_, rfl⟩
    obtain ⟨fa, hfa⟩ : ∃ z, z = (stF ps a n v).2 := ⟨_, rfl⟩
    have K19 : Hid (∀ w', Below X.heap.size X w' → Calls Try.prog 19 #[.agg #[.slice am nm pm, .slice ac nc pc, .int .u64 (bs : Int), .slice ap np pp], .int .u32 (a : Int), .string str] w' fun e w'' => ∃ am' nm' pm' ac' nc' pc' ap' np' pp', e = .returned (.tuple #[.agg #[.slice am' nm' pm', .slice ac' nc' pc', .int .u64 (bs : Int), .slice ap' np' pp'], .agg #[.int .i64 kd, .int .u64 (fa : Int)]]) ∧ SlG w'' (.slice am' nm' pm') (.slice ac' nc' pc') (.slice ap' np' pp') ms CH ps ∧ Below X.heap.size X w'') := fun w' hb' => by
      rw [hkd, hfa, hCH, stF, stC, if_pos hi, if_pos hi, ← hstr]
      refine (rput19 _ _ _ bs a str ms cs ps w' ((hsl.keep hb).keep hb') hf hw hrc ha hsz hfew).mono ?_
      rintro e w'' ⟨um, uc, up, rfl, ho, hb''⟩
      obtain ⟨am', pm', rfl, _⟩ := id ho.1
      obtain ⟨ac', pc', rfl, _⟩ := id ho.2.1
      obtain ⟨ap', pp', rfl, _⟩ := id ho.2.2
      exact ⟨_, _, _, _, _, _, _, _, _, rfl, ho, below_tr hb' hb''⟩
    rw [← hkd, ← hfa, ← hCH]
    rw [hi] at K36
    clear hsl hi hCH hkd hfa hstr hsz hf hw hrc hb hn8
    go_enter Try.func23, Try.ntmps23
    go_wp2_with fail
    refine K36.mono ?_
    rintro e wz ⟨rfl, rfl⟩
    clear K36
    go_wp2
    have HK2 : Hid (∀ wq, Below wz.drew.heap.size wz.drew wq → Below wz.heap.size wz wq ∧ wq.cell? ⟨nG, 0, none⟩ = some (.slice am nm pm) ∧ wq.cell? ⟨nG, 1, none⟩ = some (.slice ac nc pc) ∧ wq.cell? ⟨nG, 2, none⟩ = some (.int .u64 (bs : Int)) ∧ wq.cell? ⟨nG, 3, none⟩ = some (.slice ap np pp)) := fun wq hq => by
      have h := below_tr (Below.refl wz.heap.size wz).drew hq
      exact ⟨h, (BG.keep h).cells⟩
    have HBR0 : Hid (B4 wz nR 29 (.slice none 0 0) (.slice none 0 0) (.int .u64 0) (.slice none 0 0)) := BR
    have HBF0 : Hid (B2 wz nF 34 (.int .i64 0) (.int .u64 0)) := BF
    clear BG BR BF
    go_region_with (first
      | (go_at_call 46; refine (K46.out _).mono ?_; rintro e wG ⟨rfl, hbG⟩; obtain ⟨hbH, c0, c1, c2, c3⟩ := HK2.out wG hbG)
      | (go_at_call 19; refine (K19.out _ (by assumption)).mono ?_; rintro e w7 ⟨am', nm', pm', ac', nc', pc', ap', np', pp', rfl, hs1, hb7⟩; obtain ⟨Wc, Wd, hWc, hWd, bFc, BR2, BF2, bW2⟩ := res42 (w := w) (HBR0.out.keep hb7) (HBF0.out.keep hb7) (by have := HNE.out; omega) (below_tr HB.out hb7) (by have := HNE.out; omega) (by have := HNE.out; omega) (.slice am' nm' pm') (.slice ac' nc' pc') (.int .u64 (bs : Int)) (.slice ap' np' pp') (.int .i64 kd) (.int .u64 (fa : Int)); obtain ⟨z0, z1, z2, z3⟩ := (HBR0.out.keep hb7).cells; obtain ⟨f0, f1, f2, f3⟩ := (HBR0.out.keep hb7).frees; have g0 := bFc.c0; have g1 := bFc.c1; have g2 := bFc.f0; have g3 := bFc.f1; have HRES := slg_res (kd := kd) hs1 (HBR0.out.keep hb7) hWc bFc hWd; have HRS : Hid _ := HRES; have HBR : Hid _ := BR2; have HBF : Hid _ := BF2; clear bFc HRES BR2 BF2 hs1))
    all_goals (go_wp2; (try simp only [Exit.inBlock, Exit.then]))
    all_goals (
      obtain ⟨u0, u1, u2, u3⟩ := (show B4 Wd nR 29 (.slice am' nm' pm') (.slice ac' nc' pc') (.int .u64 (bs : Int)) (.slice ap' np' pp') from HBR.out).cells
      have v0 := (show B2 Wd nF 34 (.int .i64 kd) (.int .u64 (fa : Int)) from HBF.out).c0
      have v1 := (show B2 Wd nF 34 (.int .i64 kd) (.int .u64 (fa : Int)) from HBF.out).c1
      refine bodyPost_ret (v := .tuple #[.agg #[.slice am' nm' pm', .slice ac' nc' pc', .int .u64 (bs : Int), .slice ap' np' pp'], .agg #[.int .i64 kd, .int .u64 (fa : Int)]]) ?_ rfl ⟨_, _, _, rfl, HRS.out, bW2⟩
      rw [results_cells rfl]; simp [go_sem, u0, u1, u2, u3, v0, v1])
end Go.Proofs.Ytdhjmghfiodifaa
