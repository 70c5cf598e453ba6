/- What is proved here: the worker of the guest's memory: its block, and a memory that it wipes. -/
import Derived.Test.YtkpmkgkfpikpfaaGreatGs
import Derived.Test.YtkpmkgkfpikpfaaGreatCopied
import Derived.Test.YtkpmkgkfpikpfaaGreatMap
import Derived.Test.YtkpmkgkfpikpfaaGreatMapOk
import Derived.Test.YtkpmkgkfpikpfaaGreatUnmap
import Derived.Lib.OwnKind
import Derived.Lib.BufferOwn
import Derived.Lib.HexFns2
import Derived.OneCell
import Derived.Deep.RegionWith
namespace Go.Proofs.YtkpmkgkfpikpfaaGreat
open Go.RowKit
set_option linter.unusedVariables false
set_option maxRecDepth 100000
def Wb (w : World) (b : Nat) (x0 x1 x2 x3 : Value) : Prop := w.heap[b]? = some (.cells #[x0, x1, x2, x3] 88 (0, 0))
theorem Wb.lt {w : World} {b : Nat} {x0 x1 x2 x3 : Value} (h : Wb w b x0 x1 x2 x3) : b < w.heap.size := by
 rw [Wb, Array.getElem?_eq_some_iff] at h
 exact h.1
theorem Wb.c0 {w : World} {b : Nat} {x0 x1 x2 x3 : Value} (h : Wb w b x0 x1 x2 x3) : w.cell? ⟨b, 0, none⟩ = some x0 := by
 rw [Wb] at h; simp [World.cell?, h]
theorem Wb.c1 {w : World} {b : Nat} {x0 x1 x2 x3 : Value} (h : Wb w b x0 x1 x2 x3) : w.cell? ⟨b, 1, none⟩ = some x1 := by
 rw [Wb] at h; simp [World.cell?, h]
theorem Wb.c2 {w : World} {b : Nat} {x0 x1 x2 x3 : Value} (h : Wb w b x0 x1 x2 x3) : w.cell? ⟨b, 2, none⟩ = some x2 := by
 rw [Wb] at h; simp [World.cell?, h]
theorem Wb.c3 {w : World} {b : Nat} {x0 x1 x2 x3 : Value} (h : Wb w b x0 x1 x2 x3) : w.cell? ⟨b, 3, none⟩ = some x3 := by
 rw [Wb] at h; simp [World.cell?, h]
theorem Wb.f {w : World} {b : Nat} {x0 x1 x2 x3 : Value} (h : Wb w b x0 x1 x2 x3) (i : Nat) : w.frozen? ⟨b, i, none⟩ = false := by
 rw [Wb] at h; simp [World.frozen?, h]
theorem Wb.keep {w w' : World} {b : Nat} {x0 x1 x2 x3 : Value} (h : Wb w b x0 x1 x2 x3) (hb : Below w.heap.size w w') : Wb w' b x0 x1 x2 x3 := (hb.block b h.lt).trans h
theorem Wb.set0 {w : World} {b : Nat} {x0 x1 x2 x3 : Value} (h : Wb w b x0 x1 x2 x3) (u : Value) : Wb (w.setCell ⟨b, 0, none⟩ u) b u x1 x2 x3 := heap_setCell_same w b 0 _ _ u h
theorem Wb.set1 {w : World} {b : Nat} {x0 x1 x2 x3 : Value} (h : Wb w b x0 x1 x2 x3) (u : Value) : Wb (w.setCell ⟨b, 1, none⟩ u) b x0 u x2 x3 := heap_setCell_same w b 1 _ _ u h
theorem Wb.set3 {w : World} {b : Nat} {x0 x1 x2 x3 : Value} (h : Wb w b x0 x1 x2 x3) (u : Value) : Wb (w.setCell ⟨b, 3, none⟩ u) b x0 x1 x2 u := heap_setCell_same w b 3 _ _ u h
theorem Wb.own {w : World} {b B e n i : Nat} {x0 x1 x2 x3 v : Value} {xs : List Value} (hb : Wb w b x0 x1 x2 x3) (he : e ≠ 88) (h : w.ownsRow B e 2 v n xs) (u : Value) : (w.setCell ⟨b, i, none⟩ u).ownsRow B e 2 v n xs := by
 refine ownsRow_setCell_other h (fun e' => ?_) u
 obtain ⟨c, fz, hk⟩ := Go.Lib.ownsRow_kind h b e'
 rw [Wb] at hb
 rw [hb] at hk
 simp at hk
 exact he hk.2.1.symm
def OwnG (B : Nat) (w : World) (vm vc vp : Value) (ms cs ps : List (Nat × Int)) : Prop := OwnH B w vm vc ms cs ∧ w.ownsRow B 53 2 vp ps.length (Pg.rowOf .i64 ps)
theorem OwnG.keep {B : Nat} {w w' : World} {vm vc vp : Value} {ms cs ps : List (Nat × Int)} (h : OwnG B w vm vc vp ms cs ps) (hb : Below w.heap.size w w') : OwnG B w' vm vc vp ms cs ps := ⟨h.1.keep hb, own_keep h.2 hb⟩
theorem OwnG.p {B : Nat} {w : World} {vm vc vp : Value} {ms cs ps : List (Nat × Int)} (h : OwnG B w vm vc vp ms cs ps) : Pg.Sl .i64 w vp ps := Pg.own_sl h.2
theorem OwnG.base {B B' : Nat} {w : World} {vm vc vp : Value} {ms cs ps : List (Nat × Int)} (h : OwnG B w vm vc vp ms cs ps) (hB : B' ≤ B) : OwnG B' w vm vc vp ms cs ps := ⟨h.1.base hB, own_base h.2 hB⟩
theorem OwnG.wb {B b i : Nat} {w : World} {x0 x1 x2 x3 vm vc vp : Value} {ms cs ps : List (Nat × Int)} (h : OwnG B w vm vc vp ms cs ps) (hb : Wb w b x0 x1 x2 x3) (u : Value) : OwnG B (w.setCell ⟨b, i, none⟩ u) vm vc vp ms cs ps :=
 ⟨⟨hb.own (by decide) h.1.1 u, hb.own (by decide) h.1.2 u⟩, hb.own (by decide) h.2 u⟩
def Wk (B : Nat) (w : World) (b : Nat) (ms cs ps : List (Nat × Int)) (bs : Nat) : Prop := ∃ vm vc vp, Wb w b vm vc (.int .u64 (bs : Int)) vp ∧ OwnG B w vm vc vp ms cs ps ∧ B ≤ w.heap.size
theorem Wk.keep {B b bs : Nat} {w w' : World} {ms cs ps : List (Nat × Int)} (h : Wk B w b ms cs ps bs) (hb : Below w.heap.size w w') : Wk B w' b ms cs ps bs := by
 obtain ⟨vm, vc, vp, h1, h2, h3⟩ := h
 exact ⟨vm, vc, vp, h1.keep hb, h2.keep hb, Nat.le_trans h3 hb.size⟩
theorem grown_set2 {w w1 : World} {b : Nat} (hb : Below w.heap.size w w1) (x y : Value) : w.grownBy ((w1.setCell ⟨b, 0, none⟩ x).setCell ⟨b, 1, none⟩ y) (some b) :=
 Go.Lib.grownBy_setB (Go.Lib.grownBy_setB (Go.Lib.grownBy_below (World.grownBy.refl w (some b)) hb) 0 x) 1 y
theorem wk_host {B B' wb bs : Nat} {w w2 : World} {vm vc vp vm' vc' : Value} {ms cs ps ms' cs' : List (Nat × Int)} (hW : Wb w wb vm vc (.int .u64 (bs : Int)) vp ∧ OwnG B w vm vc vp ms cs ps ∧ B ≤ w.heap.size) (hb : Below w.heap.size w w2) (ho : OwnH B' w2 vm' vc' ms' cs') (hB : w.heap.size ≤ B') :
  Wk B ((w2.setCell ⟨wb, 0, none⟩ vm').setCell ⟨wb, 1, none⟩ vc') wb ms' cs' ps bs ∧ w.grownBy ((w2.setCell ⟨wb, 0, none⟩ vm').setCell ⟨wb, 1, none⟩ vc') (some wb) := by
 obtain ⟨h1, h2, h3⟩ := hW
 have k1 := h1.keep hb
 have k2 := k1.set0 vm'
 have g : OwnG B w2 vm' vc' vp ms' cs' ps := ⟨ho.base (by omega), own_keep h2.2 hb⟩
 refine ⟨⟨vm', vc', vp, k2.set1 vc', (g.wb k1 vm').wb k2 vc', ?_⟩, grown_set2 hb _ _⟩
 have := hb.size
 simp [World.setCell]
 omega
set_option maxHeartbeats 4000000 in
theorem gwipe69 (B wb first n bs a m : Nat) (ms cs ps : List (Nat × Int)) (w : World) (hW : Wk B w wb ms cs ps bs) (hfit : FitQ ms cs) (hw : Words cs) (hrc : ∀ y ∈ cs, y.1 < 18446744073709551616) (hbs : bs ≤ 4611686018427387904) (h1 : first < 1048576) (h2 : n < 4294967296) (ha : a = bs + first * 4096) (hm : m = n * 4096) :
  Calls Tryz.prog 83 #[.pointer (some ⟨wb, 0, none⟩), .int .u32 (first : Int), .int .u32 (n : Int)] w fun e w' => e = .returned (.tuple #[]) ∧ Wk B w' wb ms (clearN cs a m) ps bs ∧ w.grownBy w' (some wb) := by
 obtain ⟨vm, vc, vp, hb, ho, hB⟩ := hW
 obtain ⟨am, nm, pm, ac, nc, pc, rfl, rfl⟩ := ho.1.shape
 obtain ⟨ap, np, pp, rfl⟩ := own_shape ho.2
 have x1 : IntKind.u32.wrap ((first : Int) * 4096) = ((first * 4096 : Nat) : Int) := by rw [IntKind.wrap_u32]; omega
 have x2 : IntKind.u64.wrap (n : Int) = (n : Int) := by rw [IntKind.wrap_u64]; omega
 have x3 : IntKind.u64.wrap ((n : Int) * 4096) = (m : Int) := by rw [IntKind.wrap_u64]; omega
 have K16 : Hid (∀ w', Calls Tryz.prog 102 #[.agg #[.slice am nm pm, .slice ac nc pc, .int .u64 (bs : Int), .slice ap np pp], .int .u32 ((first * 4096 : Nat) : Int)] w' fun e w'' => e = .returned (.int .u64 (a : Int)) ∧ Below w'.heap.size w' w'') := fun w' => by
  have h := gplace16 (.slice am nm pm) (.slice ac nc pc) (.slice ap np pp) bs (first * 4096) hbs (by omega) w' ⟨_, _, _, rfl⟩ ⟨_, _, _, rfl⟩ ⟨_, _, _, rfl⟩
  rw [← ha] at h
  exact h
 have K81 : Hid (∀ w', Below w.heap.size w w' → Calls Tryz.prog 101 #[.agg #[.slice am nm pm, .slice ac nc pc], .int .u64 (a : Int), .int .u64 (m : Int)] w' fun e w'' => ∃ am' nm' pm' ac' nc' pc', e = .returned (.agg #[.slice am' nm' pm', .slice ac' nc' pc']) ∧ OwnH w'.heap.size w'' (.slice am' nm' pm') (.slice ac' nc' pc') ms (clearN cs a m) ∧ Below w'.heap.size w' w'') := fun w' hb' =>
  (clear24 _ _ ms cs a m w' (ho.1.m.keep hb') (ho.1.c.keep hb') hfit.2.2.2.1 (by have := hfit.1; omega) (by have := hfit.2.1; omega) hw (fun x hx => (hfit.2.2.2.2.2 x hx).1) hrc (by omega) (by omega)).mono (by
   rintro e w'' ⟨vm', vc', rfl, ho', hb''⟩
   obtain ⟨am', nm', pm', ac', nc', pc', rfl, rfl⟩ := ho'.shape
   exact ⟨_, _, _, _, _, _, rfl, ho', hb''⟩)
 have HW : Hid (Wb w wb (.slice am nm pm) (.slice ac nc pc) (.int .u64 (bs : Int)) (.slice ap np pp) ∧ OwnG B w (.slice am nm pm) (.slice ac nc pc) (.slice ap np pp) ms cs ps ∧ B ≤ w.heap.size) := ⟨hb, ho, hB⟩
 have c0 := hb.c0
 have c1 := hb.c1
 have c2 := hb.c2
 have c3 := hb.c3
 obtain ⟨zc, hzc⟩ : ∃ z, z = clearN cs a m := ⟨_, rfl⟩
 rw [← hzc] at K81 ⊢
 obtain ⟨q, hq⟩ : ∃ q, q = first * 4096 := ⟨_, rfl⟩
 rw [← hq] at x1 K16
 clear hb ho hB hfit hw hrc ha hm hzc hq h1 h2 hbs
 go_enter Tryz.func83, Tryz.ntmps83
 go_wp2_with fail
 go_region_with (first | (go_at_call 102; refine (K16.out _).mono ?_; rintro e w1 ⟨rfl, hb1⟩; have hbA : Below w.heap.size w w1 := (by first | exact hb1 | exact below_tr (Below.refl _ _).drew hb1 | exact hb1.trans (Below.refl _ _)); have d0 := keep_cell hbA c0; have d1 := keep_cell hbA c1; have d2 := keep_cell hbA c2; have d3 := keep_cell hbA c3) | (go_at_call 101; refine (K81.out _ (by assumption)).mono ?_; rintro e w2 ⟨am', nm', pm', ac', nc', pc', rfl, ho2, hb2⟩; have hbB := below_tr hbA hb2; have q0 := keep_cell hbB c0; have q1 := keep_cell hbB c1; have q4 := (HW.out.1.keep hbB).f 0; have q5 := (HW.out.1.keep hbB).f 1))
 all_goals go_wp2
 all_goals go_end0
 all_goals exact ⟨rfl, wk_host HW.out hbB ho2 hbA.size⟩
end Go.Proofs.YtkpmkgkfpikpfaaGreat
