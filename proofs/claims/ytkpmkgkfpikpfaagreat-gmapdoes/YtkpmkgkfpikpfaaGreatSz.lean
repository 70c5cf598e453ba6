/- What is proved here: the heap's end is moved. -/
import Derived.Test.YtkpmkgkfpikpfaaGreatSu
import Derived.Test.YtkpmkgkfpikpfaaGreatSw
import Derived.Test.YtkpmkgkfpikpfaaGreatSv
namespace Go.Proofs.YtkpmkgkfpikpfaaGreat
open Go.RowKit
set_option linter.unusedVariables false
set_option linter.unusedSimpArgs false
set_option maxRecDepth 100000
def B4 (w : World) (b t : Nat) (x0 x1 x2 x3 : Value) : Prop := w.heap[b]? = some (.cells #[x0, x1, x2, x3] t (0, 0))
theorem B4.lt {w : World} {b t : Nat} {x0 x1 x2 x3 : Value} (h : B4 w b t x0 x1 x2 x3) : b < w.heap.size := (Array.getElem?_eq_some_iff.1 h).1
theorem B4.cells {w : World} {b t : Nat} {x0 x1 x2 x3 : Value} (h : B4 w b t x0 x1 x2 x3) : w.cell? ⟨b, 0, none⟩ = some x0 ∧ w.cell? ⟨b, 1, none⟩ = some x1 ∧ w.cell? ⟨b, 2, none⟩ = some x2 ∧ w.cell? ⟨b, 3, none⟩ = some x3 := by
 rw [B4] at h; simp [World.cell?, h]
theorem B4.frees {w : World} {b t : Nat} {x0 x1 x2 x3 : Value} (h : B4 w b t x0 x1 x2 x3) : w.frozen? ⟨b, 0, none⟩ = false ∧ w.frozen? ⟨b, 1, none⟩ = false ∧ w.frozen? ⟨b, 2, none⟩ = false ∧ w.frozen? ⟨b, 3, none⟩ = false := by
 rw [B4] at h; simp [World.frozen?, h]
theorem B4.new (w : World) (t : Nat) (x0 x1 x2 x3 : Value) : B4 (w.alloc (.cells #[x0, x1, x2, x3] t)) w.heap.size t x0 x1 x2 x3 := heap_alloc_new w _
theorem B4.keep {w w' : World} {b t : Nat} {x0 x1 x2 x3 : Value} (h : B4 w b t x0 x1 x2 x3) (hb : Below w.heap.size w w') : B4 w' b t x0 x1 x2 x3 := (hb.block b h.lt).trans h
theorem B4.S4 {w : World} {b t : Nat} {x0 x1 x2 x3 : Value} (h : B4 w b t x0 x1 x2 x3) (y0 y1 y2 y3 : Value) : B4 (S4 w b y0 y1 y2 y3) b t y0 y1 y2 y3 :=
 heap_setCell_same _ b 3 _ t y3 (heap_setCell_same _ b 2 _ t y2 (heap_setCell_same _ b 1 _ t y1 (heap_setCell_same w b 0 _ t y0 h)))
theorem sl_setB4 {k : IntKind} {w : World} {v : Value} {xs : List (Nat × Int)} {n t i : Nat} {a0 a1 a3 : Option Addr} {b0 d0 b1 d1 b3 d3 : Nat} {z : Int} (h : Sl k w v xs) (hB : B4 w n t (.slice a0 b0 d0) (.slice a1 b1 d1) (.int .u64 z) (.slice a3 b3 d3)) (y : Value) : Sl k (w.setCell ⟨n, i, none⟩ y) v xs := by
 obtain ⟨a, cap, e, h1, h2, h3, h4⟩ := h
 refine ⟨a, cap, e, h1, h2, h3, fun j hj => ?_⟩
 obtain ⟨b, o, e1, e2, e3⟩ := h4 j hj
 have hne : b ≠ n := by
  rintro rfl
  rw [B4] at hB
  simp only [World.cell?, hB] at e2 e3
  rcases Nat.lt_or_ge (o + j * 2) 4 with c | c
  ·have hc : o + j * 2 = 0 ∨ o + j * 2 = 1 ∨ o + j * 2 = 2 ∨ o + j * 2 = 3 := by omega
   rcases hc with c | c | c | c
   iterate 2
    ·simp [c] at e2
   ·simp [c] at e3
   ·simp [c] at e2
  ·simp [c] at e2
 exact ⟨b, o, e1, by rw [World.cell?_setCell_other _ _ _ _ (by simp [hne])]; exact e2, by rw [World.cell?_setCell_other _ _ _ _ (by simp [hne])]; exact e3⟩
theorem pg_setB4 {w : World} {v : Value} {xs : List (Nat × Int)} {n t i : Nat} {a0 a1 a3 : Option Addr} {b0 d0 b1 d1 b3 d3 : Nat} {z : Int} (h : Pg.Sl .i64 w v xs) (hB : B4 w n t (.slice a0 b0 d0) (.slice a1 b1 d1) (.int .u64 z) (.slice a3 b3 d3)) (y : Value) : Pg.Sl .i64 (w.setCell ⟨n, i, none⟩ y) v xs := by
 obtain ⟨a, cap, e, h1, h2, h3, h4⟩ := h
 refine ⟨a, cap, e, h1, h2, h3, fun j hj => ?_⟩
 obtain ⟨b, o, e1, e2, e3⟩ := h4 j hj
 have hne : b ≠ n := by
  rintro rfl
  rw [B4] at hB
  simp only [World.cell?, hB] at e2 e3
  rcases Nat.lt_or_ge (o + j * 2) 4 with c | c
  ·have hc : o + j * 2 = 0 ∨ o + j * 2 = 1 ∨ o + j * 2 = 2 ∨ o + j * 2 = 3 := by omega
   rcases hc with c | c | c | c
   iterate 4
    ·simp [c] at e2
  ·simp [c] at e2
 exact ⟨b, o, e1, by rw [World.cell?_setCell_other _ _ _ _ (by simp [hne])]; exact e2, by rw [World.cell?_setCell_other _ _ _ _ (by simp [hne])]; exact e3⟩
theorem slg_set4 {w : World} {v0 v1 v3 : Value} {ms cs ps : List (Nat × Int)} {n t i : Nat} {a0 a1 a3 : Option Addr} {b0 d0 b1 d1 b3 d3 : Nat} {z : Int} (h : SlG w v0 v1 v3 ms cs ps) (hB : B4 w n t (.slice a0 b0 d0) (.slice a1 b1 d1) (.int .u64 z) (.slice a3 b3 d3)) (y : Value) : SlG (w.setCell ⟨n, i, none⟩ y) v0 v1 v3 ms cs ps := ⟨sl_setB4 h.1 hB y, sl_setB4 h.2.1 hB y, pg_setB4 h.2.2 hB y⟩
theorem slg_4 {w : World} {v0 v1 v3 : Value} {ms cs ps : List (Nat × Int)} {n t : Nat} {a0 a1 a3 : Option Addr} {b0 d0 b1 d1 b3 d3 : Nat} {z : Int} (h : SlG w v0 v1 v3 ms cs ps) (hB : B4 w n t (.slice a0 b0 d0) (.slice a1 b1 d1) (.int .u64 z) (.slice a3 b3 d3)) (am ac ap : Option Addr) (nm pm nc pc np pp : Nat) (z' : Int) :
  SlG (S4 w n (.slice am nm pm) (.slice ac nc pc) (.int .u64 z') (.slice ap np pp)) v0 v1 v3 ms cs ps := by
 have s1 := slg_set4 (i := 0) h hB (.slice am nm pm)
 have B1 : B4 _ n t (.slice am nm pm) (.slice a1 b1 d1) (.int .u64 z) (.slice a3 b3 d3) := heap_setCell_same w n 0 _ t (.slice am nm pm) hB
 have s2 := slg_set4 (i := 1) s1 B1 (.slice ac nc pc)
 have B2 : B4 _ n t (.slice am nm pm) (.slice ac nc pc) (.int .u64 z) (.slice a3 b3 d3) := heap_setCell_same _ n 1 _ t (.slice ac nc pc) B1
 have s3 := slg_set4 (i := 2) s2 B2 (.int .u64 z')
 have B3 : B4 _ n t (.slice am nm pm) (.slice ac nc pc) (.int .u64 z') (.slice a3 b3 d3) := heap_setCell_same _ n 2 _ t (.int .u64 z') B2
 exact slg_set4 (i := 3) s3 B3 (.slice ap np pp)
def HTold (R : GRes) (bs : Nat) (w : World) (e : Ending) (w' : World) : Prop := ∃ a1 a2 a3 a4 a5 a6 a7 a8 a9, ∃ z : Nat, ∃ ok : Bool, e = .returned (.tuple #[.agg #[.slice a1 a2 a3, .slice a4 a5 a6, .int .u64 (z : Int), .slice a7 a8 a9], .bool ok]) ∧ ok = decide (R.1 = 0) ∧ (ok = true → z = bs ∧ SlG w' (.slice a1 a2 a3) (.slice a4 a5 a6) (.slice a7 a8 a9) R.2.1 R.2.2.1 R.2.2.2) ∧ Below w.heap.size w w'
def grR (ms cs ps : List (Nat × Int)) (bs first behind : Nat) : GRes := if 458752 < behind ∨ someB ps first (behind - first) = true then (1, ms, cs, ps) else mapR ms cs ps bs first (behind - first) 3
set_option maxHeartbeats 4000000 in
theorem grown64 (vm vc vp : Value) (bs first behind : Nat) (ms cs ps : List (Nat × Int)) (w : World) (hsl : SlG w vm vc vp ms cs ps) (hrc : ∀ y ∈ cs, y.1 < 18446744073709551616) (hw : Words cs) (hf : FitG ms cs ps bs) (h1 : first < behind) (h2 : behind ≤ 1048576) :
  Calls Tryz.prog 64 #[.agg #[vm, vc, .int .u64 (bs : Int), vp], .int .u32 (first : Int), .int .u32 (behind : Int)] w (HTold (grR ms cs ps bs first behind) bs w) := by
 obtain ⟨am, nm, pm, ac, nc, pc, ap, np, pp, rfl, rfl, rfl⟩ := hsl.shape
 obtain ⟨Xa, hXa⟩ : ∃ z, w.alloc (.cells #[.slice am nm pm, .slice ac nc pc, .int .u64 (bs : Int), .slice ap np pp] 29) = z := ⟨_, rfl⟩
 have BG0 : B4 Xa w.heap.size 29 (.slice am nm pm) (.slice ac nc pc) (.int .u64 (bs : Int)) (.slice ap np pp) := by rw [← hXa]; exact B4.new w 29 _ _ _ _
 have b0 : Below w.heap.size w Xa := by rw [← hXa]; exact (Below.refl _ _).alloc (Nat.le_refl _) _
 obtain ⟨X, hX⟩ : ∃ z, Xa.alloc (.cells #[.slice none 0 0, .slice none 0 0, .int .u64 0, .slice none 0 0] 29) = z := ⟨_, rfl⟩
 have BR : B4 X Xa.heap.size 29 (.slice none 0 0) (.slice none 0 0) (.int .u64 0) (.slice none 0 0) := by rw [← hX]; exact B4.new Xa 29 _ _ _ _
 have b1 : Below Xa.heap.size Xa X := by rw [← hX]; exact (Below.refl _ _).alloc (Nat.le_refl _) _
 have BG := BG0.keep b1
 have hb := below_tr b0 b1
 have l1 := BG0.lt
 have l2 := BR.lt
 obtain ⟨nG, hnG⟩ : ∃ z, w.heap.size = z := ⟨_, rfl⟩
 obtain ⟨nR, hnR⟩ : ∃ z, Xa.heap.size = z := ⟨_, rfl⟩
 rw [hnG] at BG l1
 rw [hnR] at BR l1 l2
 have HNE : Hid (w.heap.size = nG ∧ nG < nR ∧ nR < X.heap.size) := ⟨hnG, l1, l2⟩
 clear BG0 b0 b1 l1 l2
 obtain ⟨c0, c1, c2, c3⟩ := BG.cells
 obtain ⟨n, hn⟩ : ∃ z, z = behind - first := ⟨_, rfl⟩
 have x1' : IntKind.u32.wrap ((behind : Int) - (first : Int)) = (n : Int) := by rw [IntKind.wrap_u32]; omega
 have x2' : (behind : Int) - (first : Int) = (n : Int) := by omega
 have K49 := isUnmapped49 (.slice am nm pm) (.slice ac nc pc) (.slice ap np pp) bs first n ps X ⟨_, _, _, rfl⟩ ⟨_, _, _, rfl⟩ (hsl.keep hb).2.2 (fun x hx => (hf.pg x hx).1) (by omega) (by omega) (by have := hf.lp; omega)
 have K29 : Hid (∀ w', Below X.heap.size X w' → Calls Tryz.prog 29 #[.agg #[.slice am nm pm, .slice ac nc pc, .int .u64 (bs : Int), .slice ap np pp], .int .u32 (first : Int), .int .u32 (n : Int), .int .i64 3] w' (GTold (mapR ms cs ps bs first n 3) bs w')) := fun w' hb' => told18 _ _ _ ms cs ps bs first n 3 w' ((hsl.keep hb).keep hb') hrc hw (by omega) (by omega) hf
 obtain ⟨R, hR⟩ : ∃ z, z = grR ms cs ps bs first behind := ⟨_, rfl⟩
 rw [← hR]
 obtain ⟨so, hso⟩ : ∃ z, z = someB ps first n := ⟨_, rfl⟩
 rw [← hso] at K49
 have HR0 : Hid (R = if 458752 < behind ∨ so = true then (1, ms, cs, ps) else mapR ms cs ps bs first n 3) := by show _ = _; rw [hR, grR, ← hn, ← hso]
 clear hR hso hsl hrc hw hf hn
 by_cases hk : 458752 < behind
 ·have HR : Hid (R = (1, ms, cs, ps)) := by have h := HR0.out; rw [if_pos (Or.inl hk)] at h; exact h
  have hk2 : (458752 : Int) < (behind : Int) := by omega
  have BRy := BR
  have bW := hb
  clear hk HR0 K49 K29 BR hb
  go_enter Tryz.func64, Tryz.ntmps64
  obtain ⟨q0, q1, q2, q3⟩ := BRy.cells
  obtain ⟨f0, f1, f2, f3⟩ := BRy.frees
  have HE' : Hid (B4 (S4 X nR (.slice none 0 0) (.slice none 0 0) (.int .u64 0) (.slice none 0 0)) nR 29 (.slice none 0 0) (.slice none 0 0) (.int .u64 0) (.slice none 0 0)) := BRy.S4 (.slice none 0 0) (.slice none 0 0) (.int .u64 0) (.slice none 0 0)
  have HW' : Hid (Below w.heap.size w (S4 X nR (.slice none 0 0) (.slice none 0 0) (.int .u64 0) (.slice none 0 0))) := S4.below (B := w.heap.size) (b := nR) bW (by have := HNE.out; omega) _ _ _ _
  clear BRy bW
  go_wp2
  obtain ⟨u0, u1, u2, u3⟩ := HE'.out.cells
  unfold S4 at u0 u1 u2 u3
  refine bodyPost_ret (v := .tuple #[.agg #[.slice none 0 0, .slice none 0 0, .int .u64 0, .slice none 0 0], .bool false]) ?_ rfl ⟨none, 0, 0, none, 0, 0, none, 0, 0, 0, false, rfl, by rw [HR.out]; rfl, (fun h => by cases h), HW'.out⟩
  rw [results_cell_tmp rfl]; simp [go_sem, u0, u1, u2, u3]
 have hk2 : (behind : Int) ≤ 458752 := by omega
 cases so with
 | true =>
  have HR : Hid (R = (1, ms, cs, ps)) := by have h := HR0.out; rw [if_pos (Or.inr rfl)] at h; exact h
  clear hk HR0 K29
  go_enter Tryz.func64, Tryz.ntmps64
  go_wp2_with fail
  refine K49.mono ?_
  rintro e w1 ⟨rfl, hb1⟩
  have BRy := BR.keep hb1
  have bW := below_tr hb hb1
  clear K49 BR hb
  obtain ⟨q0, q1, q2, q3⟩ := BRy.cells
  obtain ⟨f0, f1, f2, f3⟩ := BRy.frees
  have HE' : Hid (B4 (S4 w1 nR (.slice none 0 0) (.slice none 0 0) (.int .u64 0) (.slice none 0 0)) nR 29 (.slice none 0 0) (.slice none 0 0) (.int .u64 0) (.slice none 0 0)) := BRy.S4 (.slice none 0 0) (.slice none 0 0) (.int .u64 0) (.slice none 0 0)
  have HW' : Hid (Below w.heap.size w (S4 w1 nR (.slice none 0 0) (.slice none 0 0) (.int .u64 0) (.slice none 0 0))) := S4.below (B := w.heap.size) (b := nR) bW (by have := HNE.out; omega) _ _ _ _
  clear BRy bW
  go_wp2
  obtain ⟨u0, u1, u2, u3⟩ := HE'.out.cells
  unfold S4 at u0 u1 u2 u3
  refine bodyPost_ret (v := .tuple #[.agg #[.slice none 0 0, .slice none 0 0, .int .u64 0, .slice none 0 0], .bool false]) ?_ rfl ⟨none, 0, 0, none, 0, 0, none, 0, 0, 0, false, rfl, by rw [HR.out]; rfl, (fun h => by cases h), HW'.out⟩
  rw [results_cell_tmp rfl]; simp [go_sem, u0, u1, u2, u3]
 | false =>
  have HR0 : Hid (R = mapR ms cs ps bs first n 3) := by have h := HR0.out; rw [if_neg (by simp; omega)] at h; exact h
  rw [← HR0.out] at K29
  clear hk HR0
  obtain ⟨rc, rms, rcs, rps⟩ := R
  go_enter Tryz.func64, Tryz.ntmps64
  go_wp2_with fail
  refine K49.mono ?_
  rintro e w1 ⟨rfl, hb1⟩
  have R29 := K29.out w1 hb1
  have BG := BG.keep hb1
  obtain ⟨c0, c1, c2, c3⟩ := BG.cells
  clear K49 K29
  go_wp2_with fail
  refine R29.mono ?_
  rintro e w2 ⟨x1, x2, x3, x4, x5, x6, x7, x8, x9, rfl, hs0, hb2⟩
  clear R29
  have BGy := BG.keep hb2
  have hs1 := slg_4 hs0 BGy x1 x4 x7 x2 x3 x5 x6 x8 x9 (bs : Int)
  have BG2 := BGy.S4 (.slice x1 x2 x3) (.slice x4 x5 x6) (.int .u64 (bs : Int)) (.slice x7 x8 x9)
  have bW := S4.below (B := w.heap.size) (b := nG) (below_tr hb (below_tr hb1 hb2)) (by have := HNE.out; omega) (.slice x1 x2 x3) (.slice x4 x5 x6) (.int .u64 (bs : Int)) (.slice x7 x8 x9)
  have BRy : B4 (S4 w2 nG (.slice x1 x2 x3) (.slice x4 x5 x6) (.int .u64 (bs : Int)) (.slice x7 x8 x9)) nR 29 (.slice none 0 0) (.slice none 0 0) (.int .u64 0) (.slice none 0 0) := (S4.other w2 nG nR _ _ _ _ (by have := HNE.out; omega)).trans ((BR.keep hb1).keep hb2)
  obtain ⟨c0, c1, c2, c3⟩ := BGy.cells
  obtain ⟨e0, e1, e2, e3⟩ := BGy.frees
  obtain ⟨W2, hW2⟩ : ∃ z, S4 w2 nG (.slice x1 x2 x3) (.slice x4 x5 x6) (.int .u64 (bs : Int)) (.slice x7 x8 x9) = z := ⟨_, rfl⟩
  rw [hW2] at hs1 BG2 bW BRy
  unfold S4 at hW2
  obtain ⟨d0, d1, d2, d3⟩ := BG2.cells
  have HSS : Hid (SlG (S4 W2 nR (.slice x1 x2 x3) (.slice x4 x5 x6) (.int .u64 (bs : Int)) (.slice x7 x8 x9)) (.slice x1 x2 x3) (.slice x4 x5 x6) (.slice x7 x8 x9) rms rcs rps) := slg_4 hs1 BRy x1 x4 x7 x2 x3 x5 x6 x8 x9 (bs : Int)
  have hrb : ((rc == 0) = decide (rc = 0)) := by by_cases h : rc = 0 <;> simp [h]
  clear BGy BG2 BG BR hs0 hs1 hb hb1 hb2
  obtain ⟨q0, q1, q2, q3⟩ := BRy.cells
  obtain ⟨f0, f1, f2, f3⟩ := BRy.frees
  have HE' : Hid (B4 (S4 W2 nR (.slice x1 x2 x3) (.slice x4 x5 x6) (.int .u64 (bs : Int)) (.slice x7 x8 x9)) nR 29 (.slice x1 x2 x3) (.slice x4 x5 x6) (.int .u64 (bs : Int)) (.slice x7 x8 x9)) := BRy.S4 (.slice x1 x2 x3) (.slice x4 x5 x6) (.int .u64 (bs : Int)) (.slice x7 x8 x9)
  have HW' : Hid (Below w.heap.size w (S4 W2 nR (.slice x1 x2 x3) (.slice x4 x5 x6) (.int .u64 (bs : Int)) (.slice x7 x8 x9))) := S4.below (B := w.heap.size) (b := nR) bW (by have := HNE.out; omega) _ _ _ _
  clear BRy bW
  go_wp2
  obtain ⟨u0, u1, u2, u3⟩ := HE'.out.cells
  unfold S4 at u0 u1 u2 u3
  refine bodyPost_ret (v := .tuple #[.agg #[.slice x1 x2 x3, .slice x4 x5 x6, .int .u64 (bs : Int), .slice x7 x8 x9], .bool (decide (rc = 0))]) ?_ rfl ⟨x1, x2, x3, x4, x5, x6, x7, x8, x9, bs, _, rfl, rfl, (fun _ => ⟨rfl, HSS.out⟩), HW'.out⟩
  rw [results_cell_tmp rfl]; simp [go_sem, u0, u1, u2, u3]
def heapR (ms cs ps : List (Nat × Int)) (bs st en a : Nat) : GRes := if a < st then (1, ms, cs, ps) else if pgN en < pgN a then grR ms cs ps bs (pgN en) (pgN a) else if pgN a < pgN en then unmapR ms cs ps bs (pgN a) (pgN en - pgN a) else (0, ms, cs, ps)
theorem pgN_le (n : Nat) (h : n < 4294967296) : pgN n ≤ 1048576 := by unfold pgN; omega
set_option maxHeartbeats 4000000 in
theorem withHeapTo37 (vm vc vp : Value) (bs st en a : Nat) (ms cs ps : List (Nat × Int)) (w : World) (hsl : SlG w vm vc vp ms cs ps) (hrc : ∀ y ∈ cs, y.1 < 18446744073709551616) (hw : Words cs) (hf : FitG ms cs ps bs) (ha : a < 4294967296) (hen : en < 4294967296) :
  Calls Tryz.prog 37 #[.agg #[vm, vc, .int .u64 (bs : Int), vp, .int .u32 (st : Int), .int .u32 (en : Int)], .int .u32 (a : Int)] w (HTold (heapR ms cs ps bs st en a) bs w) := by
 obtain ⟨am, nm, pm, ac, nc, pc, ap, np, pp, rfl, rfl, rfl⟩ := hsl.shape
 obtain ⟨Xa, hXa⟩ : ∃ z, w.alloc (.cells #[.slice am nm pm, .slice ac nc pc, .int .u64 (bs : Int), .slice ap np pp, .int .u32 (st : Int), .int .u32 (en : Int)] 32) = z := ⟨_, rfl⟩
 have BG0 : B6 Xa w.heap.size 32 (.slice am nm pm) (.slice ac nc pc) (.int .u64 (bs : Int)) (.slice ap np pp) (.int .u32 (st : Int)) (.int .u32 (en : Int)) := by rw [← hXa]; exact B6.new w 32 _ _ _ _ _ _
 have b0 : Below w.heap.size w Xa := by rw [← hXa]; exact (Below.refl _ _).alloc (Nat.le_refl _) _
 obtain ⟨X, hX⟩ : ∃ z, Xa.alloc (.cells #[.slice none 0 0, .slice none 0 0, .int .u64 0, .slice none 0 0] 29) = z := ⟨_, rfl⟩
 have BR : B4 X Xa.heap.size 29 (.slice none 0 0) (.slice none 0 0) (.int .u64 0) (.slice none 0 0) := by rw [← hX]; exact B4.new Xa 29 _ _ _ _
 have b1 : Below Xa.heap.size Xa X := by rw [← hX]; exact (Below.refl _ _).alloc (Nat.le_refl _) _
 have BG := BG0.keep b1
 have hb := below_tr b0 b1
 have l1 := BG0.lt
 have l2 := BR.lt
 obtain ⟨nG, hnG⟩ : ∃ z, w.heap.size = z := ⟨_, rfl⟩
 obtain ⟨nR, hnR⟩ : ∃ z, Xa.heap.size = z := ⟨_, rfl⟩
 rw [hnG] at BG l1
 rw [hnR] at BR l1 l2
 have HNE : Hid (w.heap.size = nG ∧ nG < nR ∧ nR < X.heap.size) := ⟨hnG, l1, l2⟩
 clear BG0 b0 b1 l1 l2
 obtain ⟨c0, c1, c2, c3, c4, c5⟩ := BG.cells
 have lp := hf.lp
 have q1 := pgN_le a ha
 have q2 := pgN_le en hen
 obtain ⟨R, hR⟩ : ∃ z, z = heapR ms cs ps bs st en a := ⟨_, rfl⟩
 rw [← hR]
 have HR0 : Hid (R = if a < st then (1, ms, cs, ps) else if pgN en < pgN a then grR ms cs ps bs (pgN en) (pgN a) else if pgN a < pgN en then unmapR ms cs ps bs (pgN a) (pgN en - pgN a) else (0, ms, cs, ps)) := hR
 have K1 : Hid (∀ w', Calls Tryz.prog 27 #[.int .u32 (en : Int)] w' fun e w'' => e = .returned (.int .u32 (pgN en : Int)) ∧ w'' = w') := fun w' => pagesOf27 en w' hen
 have K2 : Hid (∀ w', Calls Tryz.prog 27 #[.int .u32 (a : Int)] w' fun e w'' => e = .returned (.int .u32 (pgN a : Int)) ∧ w'' = w') := fun w' => pagesOf27 a w' ha
 have K64 : Hid (pgN en < pgN a → Calls Tryz.prog 64 #[.agg #[.slice am nm pm, .slice ac nc pc, .int .u64 (bs : Int), .slice ap np pp], .int .u32 (pgN en : Int), .int .u32 (pgN a : Int)] X (HTold (grR ms cs ps bs (pgN en) (pgN a)) bs X)) := fun h => grown64 _ _ _ bs (pgN en) (pgN a) ms cs ps X (hsl.keep hb) hrc hw hf h q1
 have K33 : Hid (∀ d : Nat, d = pgN en - pgN a → Calls Tryz.prog 33 #[.agg #[.slice am nm pm, .slice ac nc pc, .int .u64 (bs : Int), .slice ap np pp], .int .u32 (pgN a : Int), .int .u32 (d : Int)] X (GTold (unmapR ms cs ps bs (pgN a) (pgN en - pgN a)) bs X)) := fun d hd => by rw [hd]; exact told20 _ _ _ ms cs ps bs (pgN a) (pgN en - pgN a) 0 X (hsl.keep hb) hrc hw (by omega) (by omega) hf
 have K47 : Hid (Calls Tryz.prog 47 #[.agg #[.slice am nm pm, .slice ac nc pc, .int .u64 (bs : Int), .slice ap np pp]] X fun e w'' => ∃ x1 x2 x3 x4 x5 x6 x7 x8 x9, e = .returned (.agg #[.slice x1 x2 x3, .slice x4 x5 x6, .int .u64 (bs : Int), .slice x7 x8 x9]) ∧ SlG w'' (.slice x1 x2 x3) (.slice x4 x5 x6) (.slice x7 x8 x9) ms cs ps ∧ Below X.heap.size X w'') := by
  have h := hsl.keep hb
  have l1 := hf.fq.1
  have l2 := hf.fq.2.1
  refine (gfresh40 _ _ _ bs ms cs ps X h.1 h.2.1 h.2.2 (by omega) (by omega) (by omega)).mono ?_
  rintro e w'' ⟨a1, a2, a3, a4, a5, a6, a7, a8, a9, rfl, ho, hb''⟩
  exact ⟨_, _, _, _, _, _, _, _, _, rfl, ho.sl, hb''⟩
 obtain ⟨now, hnow⟩ : ∃ z, z = pgN a := ⟨_, rfl⟩
 obtain ⟨old, hold⟩ : ∃ z, z = pgN en := ⟨_, rfl⟩
 rw [← hnow, ← hold] at HR0 K64 K33
 rw [← hnow] at K2 q1
 rw [← hold] at K1 q2
 clear hR hsl hrc hw hf hnow hold
 by_cases h1 : a < st
 ·have HR : Hid (R = (1, ms, cs, ps)) := by have h := HR0.out; rw [if_pos h1] at h; exact h
  have h1' : (a : Int) < (st : Int) := by omega
  have BRy := BR
  have bW := hb
  clear h1 HR0 K64 K33 K47 BR hb
  go_enter Tryz.func37, Tryz.ntmps37
  go_wp2_with fail
  refine (K1.out _).mono ?_
  rintro e w8 ⟨rfl, rfl⟩
  go_wp2_with fail
  refine (K2.out _).mono ?_
  rintro e w9 ⟨rfl, rfl⟩
  obtain ⟨q0, q1, q2, q3⟩ := BRy.cells
  obtain ⟨f0, f1, f2, f3⟩ := BRy.frees
  have HE' : Hid (B4 (S4 w9 nR (.slice none 0 0) (.slice none 0 0) (.int .u64 0) (.slice none 0 0)) nR 29 (.slice none 0 0) (.slice none 0 0) (.int .u64 0) (.slice none 0 0)) := BRy.S4 (.slice none 0 0) (.slice none 0 0) (.int .u64 0) (.slice none 0 0)
  have HW' : Hid (Below w.heap.size w (S4 w9 nR (.slice none 0 0) (.slice none 0 0) (.int .u64 0) (.slice none 0 0))) := S4.below (B := w.heap.size) (b := nR) bW (by have := HNE.out; omega) _ _ _ _
  clear BRy bW
  go_wp2
  obtain ⟨u0, u1, u2, u3⟩ := HE'.out.cells
  unfold S4 at u0 u1 u2 u3
  refine bodyPost_ret (v := .tuple #[.agg #[.slice none 0 0, .slice none 0 0, .int .u64 0, .slice none 0 0], .bool false]) ?_ rfl ⟨none, 0, 0, none, 0, 0, none, 0, 0, 0, false, rfl, by rw [HR.out]; rfl, (fun h => by cases h), HW'.out⟩
  rw [results_cell_tmp rfl]; simp [go_sem, u0, u1, u2, u3]
 have h1' : decide ((a : Int) < (st : Int)) = false := decide_eq_false (by omega)
 have h1'' : (a < st) = False := eq_false h1
 have HR0 : Hid (R = if old < now then grR ms cs ps bs old now else if now < old then unmapR ms cs ps bs now (old - now) else (0, ms, cs, ps)) := by have h := HR0.out; rw [if_neg h1] at h; exact h
 clear h1
 by_cases h2 : old < now
 ·have HR : Hid (R = grR ms cs ps bs old now) := by have h := HR0.out; rw [if_pos h2] at h; exact h
  have K := K64.out h2
  rw [← HR.out] at K
  have h2' : (old : Int) < (now : Int) := by omega
  clear HR0 K64 K33 K47 h2 HR
  obtain ⟨rc, rms, rcs, rps⟩ := R
  go_enter Tryz.func37, Tryz.ntmps37
  go_wp2_with fail
  refine (K1.out _).mono ?_
  rintro e w8 ⟨rfl, rfl⟩
  go_wp2_with fail
  refine (K2.out _).mono ?_
  rintro e w9 ⟨rfl, rfl⟩
  go_wp2_with fail
  refine K.mono ?_
  rintro e w1 ⟨x1, x2, x3, x4, x5, x6, x7, x8, x9, z, ok, rfl, hok, hS, hb1⟩
  clear K
  have BRy := BR.keep hb1
  have bW := below_tr hb hb1
  have HSS : Hid (ok = true → z = bs ∧ SlG (S4 w1 nR (.slice x1 x2 x3) (.slice x4 x5 x6) (.int .u64 (z : Int)) (.slice x7 x8 x9)) (.slice x1 x2 x3) (.slice x4 x5 x6) (.slice x7 x8 x9) rms rcs rps) := fun h => ⟨(hS h).1, slg_4 (hS h).2 BRy x1 x4 x7 x2 x3 x5 x6 x8 x9 (z : Int)⟩
  have HOK : Hid (ok = decide (rc = 0)) := hok
  clear hS hok BR hb
  obtain ⟨q0, q1, q2, q3⟩ := BRy.cells
  obtain ⟨f0, f1, f2, f3⟩ := BRy.frees
  have HE' : Hid (B4 (S4 w1 nR (.slice x1 x2 x3) (.slice x4 x5 x6) (.int .u64 (z : Int)) (.slice x7 x8 x9)) nR 29 (.slice x1 x2 x3) (.slice x4 x5 x6) (.int .u64 (z : Int)) (.slice x7 x8 x9)) := BRy.S4 (.slice x1 x2 x3) (.slice x4 x5 x6) (.int .u64 (z : Int)) (.slice x7 x8 x9)
  have HW' : Hid (Below w.heap.size w (S4 w1 nR (.slice x1 x2 x3) (.slice x4 x5 x6) (.int .u64 (z : Int)) (.slice x7 x8 x9))) := S4.below (B := w.heap.size) (b := nR) bW (by have := HNE.out; omega) _ _ _ _
  clear BRy bW
  go_wp2
  obtain ⟨u0, u1, u2, u3⟩ := HE'.out.cells
  unfold S4 at u0 u1 u2 u3
  refine bodyPost_ret (v := .tuple #[.agg #[.slice x1 x2 x3, .slice x4 x5 x6, .int .u64 (z : Int), .slice x7 x8 x9], .bool ok]) ?_ rfl ⟨x1, x2, x3, x4, x5, x6, x7, x8, x9, z, ok, rfl, HOK.out, HSS.out, HW'.out⟩
  rw [results_cell_tmp rfl]; simp [go_sem, u0, u1, u2, u3]
 have h2' : decide ((old : Int) < (now : Int)) = false := decide_eq_false (by omega)
 have h2'' : (old < now) = False := eq_false h2
 have HR0 : Hid (R = if now < old then unmapR ms cs ps bs now (old - now) else (0, ms, cs, ps)) := by have h := HR0.out; rw [if_neg h2] at h; exact h
 by_cases h3 : now < old
 ·have HR : Hid (R = unmapR ms cs ps bs now (old - now)) := by have h := HR0.out; rw [if_pos h3] at h; exact h
  obtain ⟨d, hd⟩ : ∃ z, z = old - now := ⟨_, rfl⟩
  have K := K33.out d hd
  rw [← HR.out] at K
  have h3' : (now : Int) < (old : Int) := by omega
  have x1' : IntKind.u32.wrap ((old : Int) - (now : Int)) = (d : Int) := by rw [IntKind.wrap_u32]; omega
  have x2' : (old : Int) - (now : Int) = (d : Int) := by omega
  clear HR0 K64 K33 K47 h2 h3 HR hd
  obtain ⟨rc, rms, rcs, rps⟩ := R
  go_enter Tryz.func37, Tryz.ntmps37
  go_wp2_with fail
  refine (K1.out _).mono ?_
  rintro e w8 ⟨rfl, rfl⟩
  go_wp2_with fail
  refine (K2.out _).mono ?_
  rintro e w9 ⟨rfl, rfl⟩
  go_wp2_with fail
  refine K.mono ?_
  rintro e w1 ⟨x1, x2, x3, x4, x5, x6, x7, x8, x9, rfl, hs0, hb1⟩
  clear K
  obtain ⟨Wa, hWa⟩ : ∃ z, w1.alloc (.cells #[.slice none 0 0, .slice none 0 0, .int .u64 0, .slice none 0 0] 29) = z := ⟨_, rfl⟩
  have BL0 : B4 Wa w1.heap.size 29 (.slice none 0 0) (.slice none 0 0) (.int .u64 0) (.slice none 0 0) := by rw [← hWa]; exact B4.new w1 29 _ _ _ _
  have ba : Below w1.heap.size w1 Wa := by rw [← hWa]; exact (Below.refl _ _).alloc (Nat.le_refl _) _
  obtain ⟨nL, hnL⟩ : ∃ z, w1.heap.size = z := ⟨_, rfl⟩
  rw [hnL] at BL0
  have hs1 := slg_4 (hs0.keep ba) BL0 x1 x4 x7 x2 x3 x5 x6 x8 x9 (bs : Int)
  have BL := BL0.S4 (.slice x1 x2 x3) (.slice x4 x5 x6) (.int .u64 (bs : Int)) (.slice x7 x8 x9)
  have hlt : nR < nL := by have := HNE.out; have := hb1.size; omega
  have bW := S4.below (B := w.heap.size) (b := nL) (below_tr hb (below_tr hb1 ba)) (by have := HNE.out; omega) (.slice x1 x2 x3) (.slice x4 x5 x6) (.int .u64 (bs : Int)) (.slice x7 x8 x9)
  have BRy : B4 (S4 Wa nL (.slice x1 x2 x3) (.slice x4 x5 x6) (.int .u64 (bs : Int)) (.slice x7 x8 x9)) nR 29 (.slice none 0 0) (.slice none 0 0) (.int .u64 0) (.slice none 0 0) := (S4.other Wa nL nR _ _ _ _ (by omega)).trans ((BR.keep hb1).keep ba)
  obtain ⟨g0, g1, g2, g3⟩ := BL0.cells
  obtain ⟨e0, e1, e2, e3⟩ := BL0.frees
  obtain ⟨W2, hW2⟩ : ∃ z, S4 Wa nL (.slice x1 x2 x3) (.slice x4 x5 x6) (.int .u64 (bs : Int)) (.slice x7 x8 x9) = z := ⟨_, rfl⟩
  rw [hW2] at hs1 BL bW BRy
  unfold S4 at hW2
  obtain ⟨d0, d1, d2, d3⟩ := BL.cells
  have HSS : Hid (SlG (S4 W2 nR (.slice x1 x2 x3) (.slice x4 x5 x6) (.int .u64 (bs : Int)) (.slice x7 x8 x9)) (.slice x1 x2 x3) (.slice x4 x5 x6) (.slice x7 x8 x9) rms rcs rps) := slg_4 hs1 BRy x1 x4 x7 x2 x3 x5 x6 x8 x9 (bs : Int)
  clear BL0 BL BG BR hs0 hs1 hb hb1 ba hlt
  obtain ⟨q0, q1, q2, q3⟩ := BRy.cells
  obtain ⟨f0, f1, f2, f3⟩ := BRy.frees
  have HE' : Hid (B4 (S4 W2 nR (.slice x1 x2 x3) (.slice x4 x5 x6) (.int .u64 (bs : Int)) (.slice x7 x8 x9)) nR 29 (.slice x1 x2 x3) (.slice x4 x5 x6) (.int .u64 (bs : Int)) (.slice x7 x8 x9)) := BRy.S4 (.slice x1 x2 x3) (.slice x4 x5 x6) (.int .u64 (bs : Int)) (.slice x7 x8 x9)
  have HW' : Hid (Below w.heap.size w (S4 W2 nR (.slice x1 x2 x3) (.slice x4 x5 x6) (.int .u64 (bs : Int)) (.slice x7 x8 x9))) := S4.below (B := w.heap.size) (b := nR) bW (by have := HNE.out; omega) _ _ _ _
  clear BRy bW
  go_wp2
  obtain ⟨u0, u1, u2, u3⟩ := HE'.out.cells
  unfold S4 at u0 u1 u2 u3
  refine bodyPost_ret (v := .tuple #[.agg #[.slice x1 x2 x3, .slice x4 x5 x6, .int .u64 (bs : Int), .slice x7 x8 x9], .bool (rc == 0)]) ?_ rfl ⟨x1, x2, x3, x4, x5, x6, x7, x8, x9, bs, _, rfl, (by show (rc == 0) = decide (rc = 0); by_cases h : rc = 0 <;> simp [h]), (fun _ => ⟨rfl, HSS.out⟩), HW'.out⟩
  rw [results_cell_tmp rfl]; simp [go_sem, u0, u1, u2, u3]
 have HR : Hid (R = (0, ms, cs, ps)) := by have h := HR0.out; rw [if_neg h3] at h; exact h
 have h3' : decide ((now : Int) < (old : Int)) = false := decide_eq_false (by omega)
 have h3'' : (now < old) = False := eq_false h3
 have K := K47.out
 clear HR0 K64 K33 K47 h2 h3
 go_enter Tryz.func37, Tryz.ntmps37
 go_wp2_with fail
 refine (K1.out _).mono ?_
 rintro e w8 ⟨rfl, rfl⟩
 go_wp2_with fail
 refine (K2.out _).mono ?_
 rintro e w9 ⟨rfl, rfl⟩
 go_wp2_with fail
 refine K.mono ?_
 rintro e w1 ⟨x1, x2, x3, x4, x5, x6, x7, x8, x9, rfl, hs0, hb1⟩
 clear K
 have BRy := BR.keep hb1
 have bW := below_tr hb hb1
 have HSS : Hid (SlG (S4 w1 nR (.slice x1 x2 x3) (.slice x4 x5 x6) (.int .u64 (bs : Int)) (.slice x7 x8 x9)) (.slice x1 x2 x3) (.slice x4 x5 x6) (.slice x7 x8 x9) ms cs ps) := slg_4 hs0 BRy x1 x4 x7 x2 x3 x5 x6 x8 x9 (bs : Int)
 clear hs0 BR hb
 obtain ⟨q0, q1, q2, q3⟩ := BRy.cells
 obtain ⟨f0, f1, f2, f3⟩ := BRy.frees
 have HE' : Hid (B4 (S4 w1 nR (.slice x1 x2 x3) (.slice x4 x5 x6) (.int .u64 (bs : Int)) (.slice x7 x8 x9)) nR 29 (.slice x1 x2 x3) (.slice x4 x5 x6) (.int .u64 (bs : Int)) (.slice x7 x8 x9)) := BRy.S4 (.slice x1 x2 x3) (.slice x4 x5 x6) (.int .u64 (bs : Int)) (.slice x7 x8 x9)
 have HW' : Hid (Below w.heap.size w (S4 w1 nR (.slice x1 x2 x3) (.slice x4 x5 x6) (.int .u64 (bs : Int)) (.slice x7 x8 x9))) := S4.below (B := w.heap.size) (b := nR) bW (by have := HNE.out; omega) _ _ _ _
 clear BRy bW
 go_wp2
 obtain ⟨u0, u1, u2, u3⟩ := HE'.out.cells
 unfold S4 at u0 u1 u2 u3
 refine bodyPost_ret (v := .tuple #[.agg #[.slice x1 x2 x3, .slice x4 x5 x6, .int .u64 (bs : Int), .slice x7 x8 x9], .bool true]) ?_ rfl (by rw [HR.out]; exact ⟨x1, x2, x3, x4, x5, x6, x7, x8, x9, bs, true, rfl, rfl, (fun _ => ⟨rfl, HSS.out⟩), HW'.out⟩)
 rw [results_cell_tmp rfl]; simp [go_sem, u0, u1, u2, u3]
def BTold (ms cs ps : List (Nat × Int)) (bs st en : Nat) (w : World) (e : Ending) (w' : World) : Prop := ∃ am nm pm ac nc pc ap np pp, e = .returned (.tuple #[.agg #[.slice am nm pm, .slice ac nc pc, .int .u64 (bs : Int), .slice ap np pp, .int .u32 (st : Int), .int .u32 (en : Int)], .int .u32 (en : Int)]) ∧ SlG w' (.slice am nm pm) (.slice ac nc pc) (.slice ap np pp) ms cs ps ∧ Below w.heap.size w w'
set_option maxHeartbeats 4000000 in
theorem brk17 (vm vc vp : Value) (bs st en a : Nat) (ms cs ps : List (Nat × Int)) (w : World) (hsl : SlG w vm vc vp ms cs ps) (hrc : ∀ y ∈ cs, y.1 < 18446744073709551616) (hw : Words cs) (hf : FitG ms cs ps bs) (ha : a < 4294967296) (hen : en < 4294967296) :
  Calls Tryz.prog 17 #[.agg #[vm, vc, .int .u64 (bs : Int), vp, .int .u32 (st : Int), .int .u32 (en : Int)], .int .u32 (a : Int)] w (if (heapR ms cs ps bs st en a).1 = 0 then BTold (heapR ms cs ps bs st en a).2.1 (heapR ms cs ps bs st en a).2.2.1 (heapR ms cs ps bs st en a).2.2.2 bs st a w else BTold ms cs ps bs st en w) := by
 obtain ⟨am, nm, pm, ac, nc, pc, ap, np, pp, rfl, rfl, rfl⟩ := hsl.shape
 obtain ⟨Xa, X, nR, hXa, hX, hnR, BG, BR, hb, l1, l2⟩ := new2S w (.slice am nm pm) (.slice ac nc pc) (.int .u64 (bs : Int)) (.slice ap np pp) (.int .u32 (st : Int)) (.int .u32 (en : Int))
 obtain ⟨nG, hnG⟩ : ∃ z, w.heap.size = z := ⟨_, rfl⟩
 rw [hnG] at BG l1
 obtain ⟨c0, c1, c2, c3, c4, c5⟩ := BG.cells
 have HNE : Hid (w.heap.size = nG ∧ nG < nR ∧ nR < X.heap.size) := ⟨hnG, l1, l2⟩
 have K37 := withHeapTo37 _ _ _ bs st en a ms cs ps X (hsl.keep hb) hrc hw hf ha hen
 have KF : Hid (∀ w', Below X.heap.size X w' → Calls Tryz.prog 26 #[.agg #[.slice am nm pm, .slice ac nc pc, .int .u64 (bs : Int), .slice ap np pp, .int .u32 (st : Int), .int .u32 (en : Int)]] w' fun e w'' => ∃ v, e = .returned v ∧ FrS bs st en ms cs ps v w'' ∧ Below w'.heap.size w' w'') := fun w' hb' => freshSpace26 _ _ _ bs st en ms cs ps w' ((hsl.keep hb).keep hb') hf.fq.1 hf.fq.2.1 hf.lp
 obtain ⟨R, hR⟩ : ∃ z, z = heapR ms cs ps bs st en a := ⟨_, rfl⟩
 rw [← hR] at K37 ⊢
 obtain ⟨rc, rms, rcs, rps⟩ := R
 clear hR hsl hrc hw hf
 simp only
 have HBR : Hid (B6 X nR 32 (.slice none 0 0) (.slice none 0 0) (.int .u64 0) (.slice none 0 0) (.int .u32 0) (.int .u32 0)) := BR
 have HBG : Hid (B6 X nG 32 (.slice am nm pm) (.slice ac nc pc) (.int .u64 (bs : Int)) (.slice ap np pp) (.int .u32 (st : Int)) (.int .u32 (en : Int))) := BG
 have HBX : Hid (Below w.heap.size w X) := hb
 clear BR BG hb
 by_cases h0 : rc = 0
 ·rw [if_pos h0]
  go_enter Tryz.func17, Tryz.ntmps17
  go_wp2_with fail
  refine K37.mono ?_
  rintro e w1 ⟨x1, x2, x3, x4, x5, x6, x7, x8, x9, z, ok, rfl, hok, hS, hb1⟩
  obtain rfl : ok = true := by rw [hok]; simp [h0]
  obtain ⟨hz, hs0⟩ := hS rfl
  subst hz
  clear K37 hok hS h0 KF
  obtain ⟨Wa, hWa⟩ : ∃ z, w1.alloc (.cells #[.slice none 0 0, .slice none 0 0, .int .u64 0, .slice none 0 0] 29) = z := ⟨_, rfl⟩
  have BL0 : B4 Wa w1.heap.size 29 (.slice none 0 0) (.slice none 0 0) (.int .u64 0) (.slice none 0 0) := by rw [← hWa]; exact B4.new w1 29 _ _ _ _
  have ba : Below w1.heap.size w1 Wa := by rw [← hWa]; exact (Below.refl _ _).alloc (Nat.le_refl _) _
  obtain ⟨nL, hnL⟩ : ∃ z, w1.heap.size = z := ⟨_, rfl⟩
  rw [hnL] at BL0
  have hlt : nR < nL := by have := HNE.out; have := hb1.size; omega
  have hs1 := slg_4 (hs0.keep ba) BL0 x1 x4 x7 x2 x3 x5 x6 x8 x9 (z : Int)
  have BL := BL0.S4 (.slice x1 x2 x3) (.slice x4 x5 x6) (.int .u64 (z : Int)) (.slice x7 x8 x9)
  have bW1 := S4.below (B := w.heap.size) (b := nL) (below_tr HBX.out (below_tr hb1 ba)) (by have := HNE.out; omega) (.slice x1 x2 x3) (.slice x4 x5 x6) (.int .u64 (z : Int)) (.slice x7 x8 x9)
  have BG1 : B6 (S4 Wa nL (.slice x1 x2 x3) (.slice x4 x5 x6) (.int .u64 (z : Int)) (.slice x7 x8 x9)) nG 32 (.slice am nm pm) (.slice ac nc pc) (.int .u64 (z : Int)) (.slice ap np pp) (.int .u32 (st : Int)) (.int .u32 (en : Int)) := (S4.other Wa nL nG _ _ _ _ (by have := HNE.out; omega)).trans ((HBG.out.keep hb1).keep ba)
  have BR1 : B6 (S4 Wa nL (.slice x1 x2 x3) (.slice x4 x5 x6) (.int .u64 (z : Int)) (.slice x7 x8 x9)) nR 32 (.slice none 0 0) (.slice none 0 0) (.int .u64 0) (.slice none 0 0) (.int .u32 0) (.int .u32 0) := (S4.other Wa nL nR _ _ _ _ (by omega)).trans ((HBR.out.keep hb1).keep ba)
  obtain ⟨g0, g1, g2, g3⟩ := BL0.cells
  obtain ⟨e0, e1, e2, e3⟩ := BL0.frees
  obtain ⟨W1, hW1⟩ : ∃ y, S4 Wa nL (.slice x1 x2 x3) (.slice x4 x5 x6) (.int .u64 (z : Int)) (.slice x7 x8 x9) = y := ⟨_, rfl⟩
  rw [hW1] at hs1 BL bW1 BG1 BR1
  unfold S4 at hW1
  obtain ⟨d0, d1, d2, d3⟩ := BL.cells
  obtain ⟨c0, c1, c2, c3, c4, c5⟩ := BG1.cells
  obtain ⟨y0, y1, y2, y3, y4, y5⟩ := BG1.frees
  -- the memory, into the space
  have hs2 := slg_S4 hs1 BG1 x1 x4 x7 x2 x3 x5 x6 x8 x9 (z : Int)
  have BG2 := BG1.set4 (.slice x1 x2 x3) (.slice x4 x5 x6) (.int .u64 (z : Int)) (.slice x7 x8 x9)
  have bW2 := S4.below (B := w.heap.size) (b := nG) bW1 (by have := HNE.out; omega) (.slice x1 x2 x3) (.slice x4 x5 x6) (.int .u64 (z : Int)) (.slice x7 x8 x9)
  have BR2 : B6 (S4 W1 nG (.slice x1 x2 x3) (.slice x4 x5 x6) (.int .u64 (z : Int)) (.slice x7 x8 x9)) nR 32 (.slice none 0 0) (.slice none 0 0) (.int .u64 0) (.slice none 0 0) (.int .u32 0) (.int .u32 0) := (S4.other W1 nG nR _ _ _ _ (by have := HNE.out; omega)).trans BR1
  obtain ⟨W2, hW2⟩ : ∃ y, S4 W1 nG (.slice x1 x2 x3) (.slice x4 x5 x6) (.int .u64 (z : Int)) (.slice x7 x8 x9) = y := ⟨_, rfl⟩
  rw [hW2] at hs2 BG2 bW2 BR2
  unfold S4 at hW2
  have j5 := BG2.cells.2.2.2.2.2
  have k5 := BG2.frees.2.2.2.2.2
  have hs3 := slg_set6 (i := 5) hs2 BG2 (.int .u32 (a : Int))
  have BG3 : B6 (W2.setCell ⟨nG, 5, none⟩ (.int .u32 (a : Int))) nG 32 (.slice x1 x2 x3) (.slice x4 x5 x6) (.int .u64 (z : Int)) (.slice x7 x8 x9) (.int .u32 (st : Int)) (.int .u32 (a : Int)) := heap_setCell_same _ nG 5 _ 32 (.int .u32 (a : Int)) BG2
  have bW : Below w.heap.size w (W2.setCell ⟨nG, 5, none⟩ (.int .u32 (a : Int))) := bW2.setCell (by have := HNE.out; simp; omega) _
  have BRy : B6 (W2.setCell ⟨nG, 5, none⟩ (.int .u32 (a : Int))) nR 32 (.slice none 0 0) (.slice none 0 0) (.int .u64 0) (.slice none 0 0) (.int .u32 0) (.int .u32 0) := (heap_other W2 nG 5 nR _ (by have := HNE.out; omega)).trans BR2
  obtain ⟨W3, hW3⟩ : ∃ y, W2.setCell ⟨nG, 5, none⟩ (.int .u32 (a : Int)) = y := ⟨_, rfl⟩
  rw [hW3] at hs3 BG3 bW BRy
  obtain ⟨m0, m1, m2, m3, m4, m5⟩ := BG3.cells
  obtain ⟨q0, q1, q2, q3, q4, q5⟩ := BRy.cells
  obtain ⟨f0, f1, f2, f3, f4, f5⟩ := BRy.frees
  have HE' : Hid _ := BRy.set6 (.slice x1 x2 x3) (.slice x4 x5 x6) (.int .u64 (z : Int)) (.slice x7 x8 x9) (.int .u32 (st : Int)) (.int .u32 (a : Int))
  have HS' : Hid _ := slg_S6 hs3 BRy x1 x4 x7 x2 x3 x5 x6 x8 x9 (z : Int) (st : Int) (a : Int)
  have HW' : Hid _ := S6.below (B := w.heap.size) (b := nR) bW (by have := HNE.out; omega) (.slice x1 x2 x3) (.slice x4 x5 x6) (.int .u64 (z : Int)) (.slice x7 x8 x9) (.int .u32 (st : Int)) (.int .u32 (a : Int))
  clear BL0 BL BG1 BR1 BG2 BR2 BG3 BRy hs0 hs1 hs2 hs3 bW1 bW2 bW hb1 ba hlt HBR HBG HBX
  go_wp2
  obtain ⟨u0, u1, u2, u3, u4, u5⟩ := B6.cells HE'.out
  unfold S6 S4 at u0 u1 u2 u3 u4 u5
  refine bodyPost_ret (v := .tuple #[.agg #[.slice x1 x2 x3, .slice x4 x5 x6, .int .u64 (z : Int), .slice x7 x8 x9, .int .u32 (st : Int), .int .u32 (a : Int)], .int .u32 (a : Int)]) ?_ rfl ⟨x1, x2, x3, x4, x5, x6, x7, x8, x9, rfl, HS'.out, HW'.out⟩
  rw [results_cell_tmp rfl]; simp [go_sem, u0, u1, u2, u3, u4, u5]
 ·rw [if_neg h0]
  go_enter Tryz.func17, Tryz.ntmps17
  go_wp2_with fail
  refine K37.mono ?_
  rintro e w1 ⟨x1, x2, x3, x4, x5, x6, x7, x8, x9, z, ok, rfl, hok, -, hb1⟩
  obtain rfl : ok = false := by rw [hok]; simp [h0]
  clear K37 hok h0
  obtain ⟨Wa, hWa⟩ : ∃ z, w1.alloc (.cells #[.slice none 0 0, .slice none 0 0, .int .u64 0, .slice none 0 0] 29) = z := ⟨_, rfl⟩
  have BL0 : B4 Wa w1.heap.size 29 (.slice none 0 0) (.slice none 0 0) (.int .u64 0) (.slice none 0 0) := by rw [← hWa]; exact B4.new w1 29 _ _ _ _
  have ba : Below w1.heap.size w1 Wa := by rw [← hWa]; exact (Below.refl _ _).alloc (Nat.le_refl _) _
  obtain ⟨nL, hnL⟩ : ∃ z, w1.heap.size = z := ⟨_, rfl⟩
  rw [hnL] at BL0
  have hlt : nR < nL := by have := HNE.out; have := hb1.size; omega
  have hXL : X.heap.size ≤ nL := by have := hb1.size; omega
  obtain ⟨g0, g1, g2, g3⟩ := BL0.cells
  obtain ⟨e0, e1, e2, e3⟩ := BL0.frees
  have bX1 := S4.below (B := X.heap.size) (b := nL) (below_tr hb1 ba) hXL (.slice x1 x2 x3) (.slice x4 x5 x6) (.int .u64 (z : Int)) (.slice x7 x8 x9)
  obtain ⟨W1, hW1⟩ : ∃ y, S4 Wa nL (.slice x1 x2 x3) (.slice x4 x5 x6) (.int .u64 (z : Int)) (.slice x7 x8 x9) = y := ⟨_, rfl⟩
  rw [hW1] at bX1
  unfold S4 at hW1
  have BG1 := HBG.out.keep bX1
  obtain ⟨c0, c1, c2, c3, c4, c5⟩ := BG1.cells
  have HB1 : Hid (Below X.heap.size X W1) := bX1
  clear BL0 hb1 ba hlt hXL BG1 bX1
  go_wp2
  have HK : Hid (∀ wq, Below W1.drew.heap.size W1.drew wq → Below X.heap.size X wq ∧ wq.cell? ⟨nG, 5, none⟩ = some (.int .u32 (en : Int)) ∧ B6 wq nR 32 (.slice none 0 0) (.slice none 0 0) (.int .u64 0) (.slice none 0 0) (.int .u32 0) (.int .u32 0)) := fun wq hbq => by
   have h := below_tr HB1.out (below_tr (Below.refl W1.heap.size W1).drew hbq)
   exact ⟨h, (HBG.out.keep h).cells.2.2.2.2.2, HBR.out.keep h⟩
  have HKF : Hid (Calls Tryz.prog 26 #[.agg #[.slice am nm pm, .slice ac nc pc, .int .u64 (bs : Int), .slice ap np pp, .int .u32 (st : Int), .int .u32 (en : Int)]] W1.drew fun e w'' => ∃ v, e = .returned v ∧ FrS bs st en ms cs ps v w'' ∧ Below W1.drew.heap.size W1.drew w'') := KF.out _ (below_tr HB1.out (Below.refl W1.heap.size W1).drew)
  go_region_with (refine HKF.out.mono ?_; rintro e w7 ⟨v7, rfl, ⟨k1, k2, k3, k4, k5, k6, k7, k8, k9, rfl, hs7⟩, hb7⟩; obtain ⟨bX7, p5, BR7⟩ := HK.out w7 hb7; obtain ⟨q0, q1, q2, q3, q4, q5⟩ := BR7.cells; obtain ⟨f0, f1, f2, f3, f4, f5⟩ := BR7.frees)
  all_goals (
   have HE' : Hid _ := BR7.set6 (.slice k1 k2 k3) (.slice k4 k5 k6) (.int .u64 (bs : Int)) (.slice k7 k8 k9) (.int .u32 (st : Int)) (.int .u32 (en : Int))
   have HS' : Hid _ := slg_S6 hs7 BR7 k1 k4 k7 k2 k3 k5 k6 k8 k9 (bs : Int) (st : Int) (en : Int)
   have HW' : Hid _ := S6.below (B := w.heap.size) (b := nR) (below_tr HBX.out bX7) (by have := HNE.out; omega) (.slice k1 k2 k3) (.slice k4 k5 k6) (.int .u64 (bs : Int)) (.slice k7 k8 k9) (.int .u32 (st : Int)) (.int .u32 (en : Int))
   clear BR7 hs7 bX7
   go_wp2
   obtain ⟨u0, u1, u2, u3, u4, u5⟩ := B6.cells HE'.out
   unfold S6 S4 at u0 u1 u2 u3 u4 u5
   refine bodyPost_ret (v := .tuple #[.agg #[.slice k1 k2 k3, .slice k4 k5 k6, .int .u64 (bs : Int), .slice k7 k8 k9, .int .u32 (st : Int), .int .u32 (en : Int)], .int .u32 (en : Int)]) ?_ rfl ⟨k1, k2, k3, k4, k5, k6, k7, k8, k9, rfl, HS'.out, HW'.out⟩
   rw [results_cell_tmp rfl]; simp [go_sem, u0, u1, u2, u3, u4, u5])
end Go.Proofs.YtkpmkgkfpikpfaaGreat
