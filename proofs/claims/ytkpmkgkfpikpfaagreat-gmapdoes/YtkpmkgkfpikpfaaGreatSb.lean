/- What is proved here: blocks of a space; lists that stay where such a block is stored. -/
import Derived.Test.YtkpmkgkfpikpfaaGreatGf
import Derived.Test.YtkpmkgkfpikpfaaGreatGmap
namespace Go.Proofs.YtkpmkgkfpikpfaaGreat
open Go.RowKit
set_option linter.unusedVariables false
set_option linter.unusedSimpArgs false
set_option maxRecDepth 100000
def B6 (w : World) (b t : Nat) (x0 x1 x2 x3 x4 x5 : Value) : Prop := w.heap[b]? = some (.cells #[x0, x1, x2, x3, x4, x5] t (0, 0))
theorem B6.lt {w : World} {b t : Nat} {x0 x1 x2 x3 x4 x5 : Value} (h : B6 w b t x0 x1 x2 x3 x4 x5) : b < w.heap.size := (Array.getElem?_eq_some_iff.1 h).1
theorem B6.cells {w : World} {b t : Nat} {x0 x1 x2 x3 x4 x5 : Value} (h : B6 w b t x0 x1 x2 x3 x4 x5) : w.cell? ⟨b, 0, none⟩ = some x0 ∧ w.cell? ⟨b, 1, none⟩ = some x1 ∧ w.cell? ⟨b, 2, none⟩ = some x2 ∧ w.cell? ⟨b, 3, none⟩ = some x3 ∧ w.cell? ⟨b, 4, none⟩ = some x4 ∧ w.cell? ⟨b, 5, none⟩ = some x5 := by
 rw [B6] at h; simp [World.cell?, h]
theorem B6.frees {w : World} {b t : Nat} {x0 x1 x2 x3 x4 x5 : Value} (h : B6 w b t x0 x1 x2 x3 x4 x5) : w.frozen? ⟨b, 0, none⟩ = false ∧ w.frozen? ⟨b, 1, none⟩ = false ∧ w.frozen? ⟨b, 2, none⟩ = false ∧ w.frozen? ⟨b, 3, none⟩ = false ∧ w.frozen? ⟨b, 4, none⟩ = false ∧ w.frozen? ⟨b, 5, none⟩ = false := by
 rw [B6] at h; simp [World.frozen?, h]
theorem B6.new (w : World) (t : Nat) (x0 x1 x2 x3 x4 x5 : Value) : B6 (w.alloc (.cells #[x0, x1, x2, x3, x4, x5] t)) w.heap.size t x0 x1 x2 x3 x4 x5 := heap_alloc_new w _
theorem B6.keep {w w' : World} {b t : Nat} {x0 x1 x2 x3 x4 x5 : Value} (h : B6 w b t x0 x1 x2 x3 x4 x5) (hb : Below w.heap.size w w') : B6 w' b t x0 x1 x2 x3 x4 x5 := (hb.block b h.lt).trans h
def S4 (w : World) (b : Nat) (y0 y1 y2 y3 : Value) : World := (((w.setCell ⟨b, 0, none⟩ y0).setCell ⟨b, 1, none⟩ y1).setCell ⟨b, 2, none⟩ y2).setCell ⟨b, 3, none⟩ y3
def S6 (w : World) (b : Nat) (y0 y1 y2 y3 y4 y5 : Value) : World := ((S4 w b y0 y1 y2 y3).setCell ⟨b, 4, none⟩ y4).setCell ⟨b, 5, none⟩ y5
theorem B6.set4 {w : World} {b t : Nat} {x0 x1 x2 x3 x4 x5 : Value} (h : B6 w b t x0 x1 x2 x3 x4 x5) (y0 y1 y2 y3 : Value) : B6 (S4 w b y0 y1 y2 y3) b t y0 y1 y2 y3 x4 x5 :=
 heap_setCell_same _ b 3 _ t y3 (heap_setCell_same _ b 2 _ t y2 (heap_setCell_same _ b 1 _ t y1 (heap_setCell_same w b 0 _ t y0 h)))
theorem B6.set6 {w : World} {b t : Nat} {x0 x1 x2 x3 x4 x5 : Value} (h : B6 w b t x0 x1 x2 x3 x4 x5) (y0 y1 y2 y3 y4 y5 : Value) : B6 (S6 w b y0 y1 y2 y3 y4 y5) b t y0 y1 y2 y3 y4 y5 :=
 heap_setCell_same _ b 5 _ t y5 (heap_setCell_same _ b 4 _ t y4 (h.set4 y0 y1 y2 y3))
theorem heap_other (w : World) (b i k : Nat) (y : Value) (hn : k ≠ b) : (w.setCell ⟨b, i, none⟩ y).heap[k]? = w.heap[k]? := Below.heap_setCell w ⟨b, i, none⟩ y k hn
theorem S4.other (w : World) (b k : Nat) (y0 y1 y2 y3 : Value) (hn : k ≠ b) : (S4 w b y0 y1 y2 y3).heap[k]? = w.heap[k]? := by
 unfold S4; rw [heap_other _ _ _ _ _ hn, heap_other _ _ _ _ _ hn, heap_other _ _ _ _ _ hn, heap_other _ _ _ _ _ hn]
theorem S4.below {w0 w : World} {B b : Nat} (h : Below B w0 w) (hb : B ≤ b) (y0 y1 y2 y3 : Value) : Below B w0 (S4 w b y0 y1 y2 y3) := (((h.setCell hb y0).setCell hb y1).setCell hb y2).setCell hb y3
theorem S6.below {w0 w : World} {B b : Nat} (h : Below B w0 w) (hb : B ≤ b) (y0 y1 y2 y3 y4 y5 : Value) : Below B w0 (S6 w b y0 y1 y2 y3 y4 y5) := ((S4.below h hb y0 y1 y2 y3).setCell hb y4).setCell hb y5
theorem sl_set6 {k : IntKind} {w : World} {v : Value} {xs : List (Nat × Int)} {n t i : Nat} {a0 a1 a3 : Option Addr} {b0 d0 b1 d1 b3 d3 : Nat} {z p q : Int} (h : Sl k w v xs) (hB : B6 w n t (.slice a0 b0 d0) (.slice a1 b1 d1) (.int .u64 z) (.slice a3 b3 d3) (.int .u32 p) (.int .u32 q)) (y : Value) : Sl k (w.setCell ⟨n, i, none⟩ y) v xs := by
 obtain ⟨a, cap, e, h1, h2, h3, h4⟩ := h
 refine ⟨a, cap, e, h1, h2, h3, fun j hj => ?_⟩
 obtain ⟨b, o, e1, e2, e3⟩ := h4 j hj
 have hne : b ≠ n := by
  rintro rfl
  rw [B6] at hB
  simp only [World.cell?, hB] at e2 e3
  rcases Nat.lt_or_ge (o + j * 2) 6 with c | c
  ·have hc : o + j * 2 = 0 ∨ o + j * 2 = 1 ∨ o + j * 2 = 2 ∨ o + j * 2 = 3 ∨ o + j * 2 = 4 ∨ o + j * 2 = 5 := by omega
   rcases hc with c | c | c | c | c | c
   iterate 2
    ·simp [c] at e2
   ·simp [c] at e3
   iterate 3
    ·simp [c] at e2
  ·simp [c] at e2
 exact ⟨b, o, e1, by rw [World.cell?_setCell_other _ _ _ _ (by simp [hne])]; exact e2, by rw [World.cell?_setCell_other _ _ _ _ (by simp [hne])]; exact e3⟩
theorem pg_set6 {w : World} {v : Value} {xs : List (Nat × Int)} {n t i : Nat} {a0 a1 a3 : Option Addr} {b0 d0 b1 d1 b3 d3 : Nat} {z p q : Int} (h : Pg.Sl .i64 w v xs) (hB : B6 w n t (.slice a0 b0 d0) (.slice a1 b1 d1) (.int .u64 z) (.slice a3 b3 d3) (.int .u32 p) (.int .u32 q)) (y : Value) : Pg.Sl .i64 (w.setCell ⟨n, i, none⟩ y) v xs := by
 obtain ⟨a, cap, e, h1, h2, h3, h4⟩ := h
 refine ⟨a, cap, e, h1, h2, h3, fun j hj => ?_⟩
 obtain ⟨b, o, e1, e2, e3⟩ := h4 j hj
 have hne : b ≠ n := by
  rintro rfl
  rw [B6] at hB
  simp only [World.cell?, hB] at e2 e3
  rcases Nat.lt_or_ge (o + j * 2) 6 with c | c
  ·have hc : o + j * 2 = 0 ∨ o + j * 2 = 1 ∨ o + j * 2 = 2 ∨ o + j * 2 = 3 ∨ o + j * 2 = 4 ∨ o + j * 2 = 5 := by omega
   rcases hc with c | c | c | c | c | c
   iterate 4
    ·simp [c] at e2
   iterate 2
    ·simp [c] at e3
  ·simp [c] at e2
 exact ⟨b, o, e1, by rw [World.cell?_setCell_other _ _ _ _ (by simp [hne])]; exact e2, by rw [World.cell?_setCell_other _ _ _ _ (by simp [hne])]; exact e3⟩
theorem slg_set6 {w : World} {v0 v1 v3 : Value} {ms cs ps : List (Nat × Int)} {n t i : Nat} {a0 a1 a3 : Option Addr} {b0 d0 b1 d1 b3 d3 : Nat} {z p q : Int} (h : SlG w v0 v1 v3 ms cs ps) (hB : B6 w n t (.slice a0 b0 d0) (.slice a1 b1 d1) (.int .u64 z) (.slice a3 b3 d3) (.int .u32 p) (.int .u32 q)) (y : Value) : SlG (w.setCell ⟨n, i, none⟩ y) v0 v1 v3 ms cs ps := ⟨sl_set6 h.1 hB y, sl_set6 h.2.1 hB y, pg_set6 h.2.2 hB y⟩
theorem slg_S4 {w : World} {v0 v1 v3 : Value} {ms cs ps : List (Nat × Int)} {n t : Nat} {a0 a1 a3 : Option Addr} {b0 d0 b1 d1 b3 d3 : Nat} {z p q : Int} (h : SlG w v0 v1 v3 ms cs ps) (hB : B6 w n t (.slice a0 b0 d0) (.slice a1 b1 d1) (.int .u64 z) (.slice a3 b3 d3) (.int .u32 p) (.int .u32 q)) (am ac ap : Option Addr) (nm pm nc pc np pp : Nat) (z' : Int) :
  SlG (S4 w n (.slice am nm pm) (.slice ac nc pc) (.int .u64 z') (.slice ap np pp)) v0 v1 v3 ms cs ps := by
 have s1 := slg_set6 (i := 0) h hB (.slice am nm pm)
 have B1 : B6 _ n t (.slice am nm pm) (.slice a1 b1 d1) (.int .u64 z) (.slice a3 b3 d3) (.int .u32 p) (.int .u32 q) := heap_setCell_same w n 0 _ t (.slice am nm pm) hB
 have s2 := slg_set6 (i := 1) s1 B1 (.slice ac nc pc)
 have B2 : B6 _ n t (.slice am nm pm) (.slice ac nc pc) (.int .u64 z) (.slice a3 b3 d3) (.int .u32 p) (.int .u32 q) := heap_setCell_same _ n 1 _ t (.slice ac nc pc) B1
 have s3 := slg_set6 (i := 2) s2 B2 (.int .u64 z')
 have B3 : B6 _ n t (.slice am nm pm) (.slice ac nc pc) (.int .u64 z') (.slice a3 b3 d3) (.int .u32 p) (.int .u32 q) := heap_setCell_same _ n 2 _ t (.int .u64 z') B2
 exact slg_set6 (i := 3) s3 B3 (.slice ap np pp)
theorem slg_S6 {w : World} {v0 v1 v3 : Value} {ms cs ps : List (Nat × Int)} {n t : Nat} {a0 a1 a3 : Option Addr} {b0 d0 b1 d1 b3 d3 : Nat} {z p q : Int} (h : SlG w v0 v1 v3 ms cs ps) (hB : B6 w n t (.slice a0 b0 d0) (.slice a1 b1 d1) (.int .u64 z) (.slice a3 b3 d3) (.int .u32 p) (.int .u32 q)) (am ac ap : Option Addr) (nm pm nc pc np pp : Nat) (z' p' q' : Int) :
  SlG (S6 w n (.slice am nm pm) (.slice ac nc pc) (.int .u64 z') (.slice ap np pp) (.int .u32 p') (.int .u32 q')) v0 v1 v3 ms cs ps := by
 have s4 := slg_S4 h hB am ac ap nm pm nc pc np pp z'
 have B4 := hB.set4 (.slice am nm pm) (.slice ac nc pc) (.int .u64 z') (.slice ap np pp)
 have s5 := slg_set6 (i := 4) s4 B4 (.int .u32 p')
 have B5 : B6 _ n t (.slice am nm pm) (.slice ac nc pc) (.int .u64 z') (.slice ap np pp) (.int .u32 p') (.int .u32 q) := heap_setCell_same _ n 4 _ t (.int .u32 p') B4
 exact slg_set6 (i := 5) s5 B5 (.int .u32 q')
/- The small functions. -/
def pgN (n : Nat) : Nat := (n + 4095) / 4096
def upV (n : Nat) : Nat := if n % 4096 = 0 then n else if 4294967296 ≤ n + (4096 - n % 4096) then 0 else n + (4096 - n % 4096)
def upK (n : Nat) : Bool := decide (n % 4096 = 0 ∨ n + (4096 - n % 4096) < 4294967296)
theorem up48 (n : Nat) (w : World) (hn : n < 4294967296) : Calls Tryz.prog 48 #[.int .u32 (n : Int), .int .u32 4096] w fun e w' => e = .returned (.tuple #[.int .u32 (upV n : Int), .bool (upK n)]) ∧ w' = w := by
 obtain ⟨r, hr⟩ : ∃ z, z = n % 4096 := ⟨_, rfl⟩
 have x1 : (n : Int) % 4096 = (r : Int) := by omega
 have x1' : (n : Int).tmod 4096 = (r : Int) := by rw [Int.tmod_eq_emod_of_nonneg (by omega)]; omega
 by_cases h0 : r = 0
 ·subst h0
  have HA : Hid (upV n = n ∧ upK n = true) := by unfold upV upK; rw [← hr]; exact ⟨rfl, by simp⟩
  clear hr
  go_enter Tryz.func48, Tryz.ntmps48
  go_wp2
  go_ret2
  exact ⟨by rw [HA.out.1, HA.out.2]; rfl, rfl⟩
 ·obtain ⟨d, hd⟩ : ∃ z, z = 4096 - r := ⟨_, rfl⟩
  have hr2 : r < 4096 := by omega
  have x2 : (4096 : Int) - (r : Int) = (d : Int) := by omega
  have x3 : IntKind.u32.wrap (4096 - (r : Int)) = (d : Int) := by rw [IntKind.wrap_u32]; omega
  have h01 : ((r : Int) == 0) = false := by simp; omega
  have h02 : ((r : Int) = 0) = False := by simp; omega
  have h03 : (r = 0) = False := by simp [h0]
  by_cases hov : 4294967296 ≤ n + d
  ·obtain ⟨o, ho⟩ : ∃ z, z = n + d - 4294967296 := ⟨_, rfl⟩
   have x4 : IntKind.u32.wrap ((n : Int) + (d : Int)) = (o : Int) := by rw [IntKind.wrap_u32]; omega
   have x5 : ((n : Int) + (d : Int)) % 4294967296 = (o : Int) := by omega
   have x6 : (o : Int) < (n : Int) := by omega
   have HA : Hid (upV n = 0 ∧ upK n = false) := by
    unfold upV upK
    rw [← hr, ← hd, if_neg h0, if_pos hov]
    exact ⟨rfl, decide_eq_false (by omega)⟩
   clear hr hd ho hov h0
   go_enter Tryz.func48, Tryz.ntmps48
   go_wp2
   go_ret2
   exact ⟨by rw [HA.out.1, HA.out.2]; rfl, rfl⟩
  ·obtain ⟨o, ho⟩ : ∃ z, z = n + d := ⟨_, rfl⟩
   have x4 : IntKind.u32.wrap ((n : Int) + (d : Int)) = (o : Int) := by rw [IntKind.wrap_u32]; omega
   have x5 : (n : Int) + (d : Int) = (o : Int) := by omega
   have x6 : decide ((o : Int) < (n : Int)) = false := decide_eq_false (by omega)
   have x7 : (o < n) = False := eq_false (by omega)
   have HA : Hid (upV n = o ∧ upK n = true) := by
    unfold upV upK
    rw [← hr, ← hd, if_neg h0, if_neg hov]
    refine ⟨ho.symm, decide_eq_true (Or.inr (by omega))⟩
   have ho2 : o < 4294967296 := by omega
   clear hr hd hov h0 ho
   go_enter Tryz.func48, Tryz.ntmps48
   go_wp2
   go_ret2
   exact ⟨by rw [HA.out.1, HA.out.2]; rfl, rfl⟩
theorem pagesOf27 (n : Nat) (w : World) (hn : n < 4294967296) : Calls Tryz.prog 27 #[.int .u32 (n : Int)] w fun e w' => e = .returned (.int .u32 (pgN n : Int)) ∧ w' = w := by
 have K := up48 n w hn
 obtain ⟨u, hu0⟩ : ∃ z, z = upV n := ⟨_, rfl⟩
 have hu : u = (if n % 4096 = 0 then n else if 4294967296 ≤ n + (4096 - n % 4096) then 0 else n + (4096 - n % 4096)) := by rw [hu0, upV]
 rw [← hu0, upK] at K
 by_cases hk : n % 4096 = 0 ∨ n + (4096 - n % 4096) < 4294967296
 ·rw [decide_eq_true hk] at K
  obtain ⟨q, hq⟩ : ∃ z, z = u / 4096 := ⟨_, rfl⟩
  have HP : Hid (pgN n = q) := by
   show _ = _
   rw [hq, hu, pgN]
   split <;> (try split) <;> omega
  have x1 : (u : Int) / 4096 = (q : Int) := by omega
  have x2 : (u : Int).tdiv 4096 = (q : Int) := by rw [Int.tdiv_eq_ediv_of_nonneg (by omega)]; omega
  have hu4 : u < 4294967296 := by
   rw [hu]
   split <;> (try split) <;> omega
  have x3 : (q : Int) % 4294967296 = (q : Int) := by omega
  clear hu hu0 hq hk
  go_enter Tryz.func27, Tryz.ntmps27
  go_wp2_with fail
  refine K.mono ?_
  rintro e wz ⟨rfl, rfl⟩
  go_wp2
  go_ret
  exact ⟨by rw [HP.out]; rfl, rfl⟩
 ·rw [decide_eq_false hk] at K
  have HP : Hid (pgN n = 1048576) := by show _ = _; rw [pgN]; omega
  clear hu hu0 hk
  go_enter Tryz.func27, Tryz.ntmps27
  go_wp2_with fail
  refine K.mono ?_
  rintro e wz ⟨rfl, rfl⟩
  go_wp2
  go_ret
  exact ⟨by rw [HP.out]; rfl, rfl⟩
theorem isPlace23 (a : Nat) (w : World) : Calls Tryz.prog 23 #[.int .u32 (a : Int)] w fun e w' => e = .returned (.bool (decide (a % 4096 = 0))) ∧ w' = w := by
 obtain ⟨r, hr⟩ : ∃ z, z = a % 4096 := ⟨_, rfl⟩
 have x1 : (a : Int) % 4096 = (r : Int) := by omega
 have x1' : (a : Int).tmod 4096 = (r : Int) := by rw [Int.tmod_eq_emod_of_nonneg (by omega)]; omega
 rw [← hr]
 clear hr
 by_cases h0 : r = 0
 ·subst h0
  go_enter Tryz.func23, Tryz.ntmps23
  go_wp2
  go_ret
  exact ⟨rfl, rfl⟩
 ·have h01 : ((r : Int) == 0) = false := by simp; omega
  have h02 : ((r : Int) = 0) = False := by simp; omega
  have h03 : (r = 0) = False := by simp [h0]
  have HF : Hid (decide (r = 0) = false) := decide_eq_false h0
  go_enter Tryz.func23, Tryz.ntmps23
  go_wp2
  go_ret
  exact ⟨by rw [HF.out]; rfl, rfl⟩
theorem isProt25 (p : Int) (w : World) : Calls Tryz.prog 25 #[.int .i64 p] w fun e w' => e = .returned (.bool (protOk p)) ∧ w' = w := by
 have HP : Hid (protOk p = decide (0 ≤ p ∧ p ≤ 7)) := by show _ = _; unfold protOk; (try rfl) <;> simp
 by_cases h0 : 0 ≤ p
 ·by_cases h7 : p ≤ 7
  ·have HD : Hid (decide (0 ≤ p ∧ p ≤ 7) = true) := decide_eq_true ⟨h0, h7⟩
   go_enter Tryz.func25, Tryz.ntmps25
   go_wp2
   go_ret
   exact ⟨by rw [HP.out, HD.out]; rfl, rfl⟩
  ·have HD : Hid (decide (0 ≤ p ∧ p ≤ 7) = false) := decide_eq_false (fun h => h7 h.2)
   have h8 : decide (p ≤ 7) = false := decide_eq_false h7
   go_enter Tryz.func25, Tryz.ntmps25
   go_wp2
   go_ret
   exact ⟨by rw [HP.out, HD.out]; rfl, rfl⟩
 ·have HD : Hid (decide (0 ≤ p ∧ p ≤ 7) = false) := decide_eq_false (fun h => h0 h.1)
  have h8 : decide (0 ≤ p) = false := decide_eq_false h0
  go_enter Tryz.func25, Tryz.ntmps25
  go_wp2
  go_ret
  exact ⟨by rw [HP.out, HD.out]; rfl, rfl⟩
end Go.Proofs.YtkpmkgkfpikpfaaGreat
