/- What is proved here: Map. -/
import Derived.Test.YtdhjmghfiodifaaCopied
import Derived.Test.YtdhjmghfiodifaaSmall
import Derived.Test.YtdhjmghfiodifaaSpan
import Derived.Test.YtdhjmghfiodifaaHeld
import Derived.Test.YtdhjmghfiodifaaSl
import Derived.Laws.OwnMore
import Derived.OneCell
import Derived.Test.YtdhjmghfiodifaaGs
import Derived.Lib.OwnKind
import Derived.Lib.BufferOwn
import Derived.Lib.HexFns2
import Derived.Deep.RegionWith
namespace Go.Proofs.Ytdhjmghfiodifaa
open Go.RowKit
set_option maxRecDepth 100000
set_option linter.unusedVariables false
end Go.Proofs.Ytdhjmghfiodifaa
namespace Go.Proofs.Ytdhjmghfiodifaa
open Go.RowKit
set_option maxRecDepth 100000
set_option linter.unusedVariables false
theorem below_grown {w w1 w2 : World} (h : Below w.heap.size w w1) (hg : w1.grownBy w2 none) : Below w.heap.size w w2 := h.grown hg h.size (by simp)
end Go.Proofs.Ytdhjmghfiodifaa
namespace Go.Proofs.Ytdhjmghfiodifaa
open Go.RowKit
set_option maxRecDepth 100000
set_option linter.unusedVariables false
end Go.Proofs.Ytdhjmghfiodifaa
namespace Go.Proofs.Ytdhjmghfiodifaa
open Go.RowKit
set_option maxRecDepth 100000
set_option linter.unusedVariables false
theorem OwnH.new {B : Nat} {w0 w : World} {vm vc : Value} {ms cs : List (Nat × Int)} (h : OwnH B w vm vc ms cs) (h0 : OwnH B w0 vm vc ms cs) {a : Addr} (ha : w0.heap.size ≤ a.block) (u : Value) : OwnH B (w.setCell a u) vm vc ms cs :=
  ⟨ownsRow_setCell_other h.1 (fun e => by have := (h0.1.lt _ e).2; omega) u, ownsRow_setCell_other h.2 (fun e => by have := (h0.2.lt _ e).2; omega) u⟩
theorem sl_nil (k : IntKind) (w : World) : Sl k w (.slice none 0 0) [] := ⟨none, 0, rfl, by simp, by omega, fun _ => rfl, fun i hi => by simp at hi⟩
theorem aw_ff1 : faultFrom [(2, 3)] 49151 2 0 2 = (1, 49152) := by decide
theorem aw_ff2 : faultFrom [(2, 3)] 32768 2 0 2 = (0, 0) := by decide
theorem aw_ff3 : faultFrom [(2, 3)] 32768 1 0 1 = (0, 0) := by decide
theorem aw_st : storeN [] 32768 2 258 = [(32768, 258)] := by decide
theorem aw_ld : loadN [(32768, 258)] 32768 1 = 2 := by decide
theorem aw_map : lo [] 2 ++ added 2 3 1 ++ hi [] (2 + 1 - 1) = [(2, 3)] := by decide
end Go.Proofs.Ytdhjmghfiodifaa
namespace Go.Proofs.Ytdhjmghfiodifaa
open Go.RowKit
set_option maxRecDepth 100000
set_option linter.unusedVariables false
end Go.Proofs.Ytdhjmghfiodifaa
namespace Go.Proofs.Ytdhjmghfiodifaa
open Go.RowKit
set_option maxRecDepth 100000
set_option linter.unusedVariables false
end Go.Proofs.Ytdhjmghfiodifaa
namespace Go.Proofs.Ytdhjmghfiodifaa
open Go.RowKit
set_option linter.unusedVariables false
set_option maxRecDepth 100000
/-- The worker's block. -/
def Wb (w : World) (b : Nat) (x0 x1 x2 x3 : Value) : Prop := w.heap[b]? = some (.cells #[x0, x1, x2, x3] 69 (0, 0))
theorem Wb.lt {w : World} {b : Nat} {x0 x1 x2 x3 : Value} (h : Wb w b x0 x1 x2 x3) : b < w.heap.size := by
  rw [Wb, Array.getElem?_eq_some_iff] at h
  exact h.1
theorem Wb.c0 {w : World} {b : Nat} {x0 x1 x2 x3 : Value} (h : Wb w b x0 x1 x2 x3) : w.cell? ⟨b, 0, none⟩ = some x0 := by
  rw [Wb] at h; simp [World.cell?, h]
theorem Wb.c1 {w : World} {b : Nat} {x0 x1 x2 x3 : Value} (h : Wb w b x0 x1 x2 x3) : w.cell? ⟨b, 1, none⟩ = some x1 := by
  rw [Wb] at h; simp [World.cell?, h]
theorem Wb.c2 {w : World} {b : Nat} {x0 x1 x2 x3 : Value} (h : Wb w b x0 x1 x2 x3) : w.cell? ⟨b, 2, none⟩ = some x2 := by
  rw [Wb] at h; simp [World.cell?, h]
theorem Wb.c3 {w : World} {b : Nat} {x0 x1 x2 x3 : Value} (h : Wb w b x0 x1 x2 x3) : w.cell? ⟨b, 3, none⟩ = some x3 := by
  rw [Wb] at h; simp [World.cell?, h]
theorem Wb.f {w : World} {b : Nat} {x0 x1 x2 x3 : Value} (h : Wb w b x0 x1 x2 x3) (i : Nat) : w.frozen? ⟨b, i, none⟩ = false := by
  rw [Wb] at h; simp [World.frozen?, h]
theorem Wb.keep {w w' : World} {b : Nat} {x0 x1 x2 x3 : Value} (h : Wb w b x0 x1 x2 x3) (hb : Below w.heap.size w w') : Wb w' b x0 x1 x2 x3 := (hb.block b h.lt).trans h
theorem Wb.set0 {w : World} {b : Nat} {x0 x1 x2 x3 : Value} (h : Wb w b x0 x1 x2 x3) (u : Value) : Wb (w.setCell ⟨b, 0, none⟩ u) b u x1 x2 x3 := heap_setCell_same w b 0 _ _ u h
theorem Wb.set1 {w : World} {b : Nat} {x0 x1 x2 x3 : Value} (h : Wb w b x0 x1 x2 x3) (u : Value) : Wb (w.setCell ⟨b, 1, none⟩ u) b x0 u x2 x3 := heap_setCell_same w b 1 _ _ u h
theorem Wb.set3 {w : World} {b : Nat} {x0 x1 x2 x3 : Value} (h : Wb w b x0 x1 x2 x3) (u : Value) : Wb (w.setCell ⟨b, 3, none⟩ u) b x0 x1 x2 u := heap_setCell_same w b 3 _ _ u h
theorem Wb.own {w : World} {b B e n i : Nat} {x0 x1 x2 x3 v : Value} {xs : List Value} (hb : Wb w b x0 x1 x2 x3) (he : e ≠ 69) (h : w.ownsRow B e 2 v n xs) (u : Value) : (w.setCell ⟨b, i, none⟩ u).ownsRow B e 2 v n xs := by
  refine ownsRow_setCell_other h (fun e' => ?_) u
  obtain ⟨c, fz, hk⟩ := Go.Lib.ownsRow_kind h b e'
  rw [Wb] at hb
  rw [hb] at hk
  simp at hk
  exact he hk.2.1.symm
/-- A guest's memory of one's own: its lists' rows. -/
def OwnG (B : Nat) (w : World) (vm vc vp : Value) (ms cs ps : List (Nat × Int)) : Prop := OwnH B w vm vc ms cs ∧ w.ownsRow B 53 2 vp ps.length (Pg.rowOf .i64 ps)
theorem OwnG.keep {B : Nat} {w w' : World} {vm vc vp : Value} {ms cs ps : List (Nat × Int)} (h : OwnG B w vm vc vp ms cs ps) (hb : Below w.heap.size w w') : OwnG B w' vm vc vp ms cs ps := ⟨h.1.keep hb, own_keep h.2 hb⟩
theorem OwnG.p {B : Nat} {w : World} {vm vc vp : Value} {ms cs ps : List (Nat × Int)} (h : OwnG B w vm vc vp ms cs ps) : Pg.Sl .i64 w vp ps := Pg.own_sl h.2
theorem OwnG.base {B B' : Nat} {w : World} {vm vc vp : Value} {ms cs ps : List (Nat × Int)} (h : OwnG B w vm vc vp ms cs ps) (hB : B' ≤ B) : OwnG B' w vm vc vp ms cs ps := ⟨h.1.base hB, own_base h.2 hB⟩
theorem OwnG.wb {B b i : Nat} {w : World} {x0 x1 x2 x3 vm vc vp : Value} {ms cs ps : List (Nat × Int)} (h : OwnG B w vm vc vp ms cs ps) (hb : Wb w b x0 x1 x2 x3) (u : Value) : OwnG B (w.setCell ⟨b, i, none⟩ u) vm vc vp ms cs ps :=
  ⟨⟨hb.own (by decide) h.1.1 u, hb.own (by decide) h.1.2 u⟩, hb.own (by decide) h.2 u⟩
/-- The worker's state. -/
def Wk (B : Nat) (w : World) (b : Nat) (ms cs ps : List (Nat × Int)) (bs : Nat) : Prop := ∃ vm vc vp, Wb w b vm vc (.int .u64 (bs : Int)) vp ∧ OwnG B w vm vc vp ms cs ps ∧ B ≤ w.heap.size
theorem Wk.keep {B b bs : Nat} {w w' : World} {ms cs ps : List (Nat × Int)} (h : Wk B w b ms cs ps bs) (hb : Below w.heap.size w w') : Wk B w' b ms cs ps bs := by
  obtain ⟨vm, vc, vp, h1, h2, h3⟩ := h
  exact ⟨vm, vc, vp, h1.keep hb, h2.keep hb, Nat.le_trans h3 hb.size⟩
theorem grown_set2 {w w1 : World} {b : Nat} (hb : Below w.heap.size w w1) (x y : Value) : w.grownBy ((w1.setCell ⟨b, 0, none⟩ x).setCell ⟨b, 1, none⟩ y) (some b) :=
  Go.Lib.grownBy_setB (Go.Lib.grownBy_setB (Go.Lib.grownBy_below (World.grownBy.refl w (some b)) hb) 0 x) 1 y
theorem wk_host {B B' wb bs : Nat} {w w2 : World} {vm vc vp vm' vc' : Value} {ms cs ps ms' cs' : List (Nat × Int)} (hW : Wb w wb vm vc (.int .u64 (bs : Int)) vp ∧ OwnG B w vm vc vp ms cs ps ∧ B ≤ w.heap.size) (hb : Below w.heap.size w w2) (ho : OwnH B' w2 vm' vc' ms' cs') (hB : w.heap.size ≤ B') :
    Wk B ((w2.setCell ⟨wb, 0, none⟩ vm').setCell ⟨wb, 1, none⟩ vc') wb ms' cs' ps bs ∧ w.grownBy ((w2.setCell ⟨wb, 0, none⟩ vm').setCell ⟨wb, 1, none⟩ vc') (some wb) := by
  obtain ⟨h1, h2, h3⟩ := hW
  have k1 := h1.keep hb
  have k2 := k1.set0 vm'
  have g : OwnG B w2 vm' vc' vp ms' cs' ps := ⟨ho.base (by omega), own_keep h2.2 hb⟩
  refine ⟨⟨vm', vc', vp, k2.set1 vc', (g.wb k1 vm').wb k2 vc', ?_⟩, grown_set2 hb _ _⟩
  have := hb.size
  simp [World.setCell]
  omega
end Go.Proofs.Ytdhjmghfiodifaa
namespace Go.Proofs.Ytdhjmghfiodifaa
open Go.RowKit
set_option linter.unusedVariables false
set_option maxRecDepth 100000
theorem box44 (w : World) (x0 x1 x2 x3 y0 y1 y2 y3 : Value) (t s : Nat) : ∃ W, (w.alloc (.cells #[x0, x1, x2, x3] t)).alloc (.cells #[y0, y1, y2, y3] s) = W ∧ Below w.heap.size w W ∧ W.heap.size = w.heap.size + 1 + 1 ∧
    W.cell? ⟨w.heap.size, 0, none⟩ = some x0 ∧ W.cell? ⟨w.heap.size, 1, none⟩ = some x1 ∧ W.cell? ⟨w.heap.size, 2, none⟩ = some x2 ∧ W.cell? ⟨w.heap.size, 3, none⟩ = some x3 ∧
    Free W ⟨w.heap.size + 1, 0, none⟩ ∧ Free W ⟨w.heap.size + 1, 1, none⟩ ∧ Free W ⟨w.heap.size + 1, 2, none⟩ ∧ Free W ⟨w.heap.size + 1, 3, none⟩ := by
  obtain ⟨X, hX, hx, hsx, c0, c1, c2, c3, _⟩ := box4 w x0 x1 x2 x3 t
  obtain ⟨W, hW, hb, hs, _, _, _, _, f0, f1, f2, f3⟩ := box4 X y0 y1 y2 y3 s
  rw [hsx] at f0 f1 f2 f3 hs
  exact ⟨W, by rw [hX, hW], below_tr hx hb, hs, keep_cell hb c0, keep_cell hb c1, keep_cell hb c2, keep_cell hb c3, f0, f1, f2, f3⟩
theorem resG4 (w : World) (n : Nat) (x0 x1 x2 x3 : Value) (h0 : Free w ⟨n, 0, none⟩) (h1 : Free w ⟨n, 1, none⟩) (h2 : Free w ⟨n, 2, none⟩) (h3 : Free w ⟨n, 3, none⟩) :
    ((((w.setCell ⟨n, 0, none⟩ x0).setCell ⟨n, 1, none⟩ x1).setCell ⟨n, 2, none⟩ x2).setCell ⟨n, 3, none⟩ x3).cell? ⟨n, 0, none⟩ = some x0 ∧ ((((w.setCell ⟨n, 0, none⟩ x0).setCell ⟨n, 1, none⟩ x1).setCell ⟨n, 2, none⟩ x2).setCell ⟨n, 3, none⟩ x3).cell? ⟨n, 1, none⟩ = some x1 ∧
    ((((w.setCell ⟨n, 0, none⟩ x0).setCell ⟨n, 1, none⟩ x1).setCell ⟨n, 2, none⟩ x2).setCell ⟨n, 3, none⟩ x3).cell? ⟨n, 2, none⟩ = some x2 ∧ ((((w.setCell ⟨n, 0, none⟩ x0).setCell ⟨n, 1, none⟩ x1).setCell ⟨n, 2, none⟩ x2).setCell ⟨n, 3, none⟩ x3).cell? ⟨n, 3, none⟩ = some x3 := by
  refine ⟨?_, ?_, ?_, ?_⟩
  · rw [World.cell?_setCell_other _ _ _ _ (by simp), World.cell?_setCell_other _ _ _ _ (by simp), World.cell?_setCell_other _ _ _ _ (by simp)]; exact World.cell?_setCell_same _ _ _ h0.cell
  · rw [World.cell?_setCell_other _ _ _ _ (by simp), World.cell?_setCell_other _ _ _ _ (by simp)]; exact World.cell?_setCell_same _ _ _ (h1.set _ _).cell
  · rw [World.cell?_setCell_other _ _ _ _ (by simp)]; exact World.cell?_setCell_same _ _ _ ((h2.set _ _).set _ _).cell
  · exact World.cell?_setCell_same _ _ _ (((h3.set _ _).set _ _).set _ _).cell
theorem res4_G {w : World} {n B C b : Nat} {x0 x1 x2 x3 vm vc vp : Value} {ms cs ps : List (Nat × Int)} (h : OwnG C w vm vc vp ms cs ps) (hn : n < C) (hB : B ≤ C) :
    OwnG B ((((w.setCell ⟨n, 0, none⟩ x0).setCell ⟨n, 1, none⟩ x1).setCell ⟨n, 2, none⟩ x2).setCell ⟨n, 3, none⟩ x3) vm vc vp ms cs ps := by
  have k : ∀ {w : World} (a : Addr) (u : Value), a.block < C → OwnG C w vm vc vp ms cs ps → OwnG C (w.setCell a u) vm vc vp ms cs ps := fun a u ha h => ⟨⟨ownsRow_setCell_below h.1.1 ha u, ownsRow_setCell_below h.1.2 ha u⟩, ownsRow_setCell_below h.2 ha u⟩
  exact (k _ _ (by simpa using hn) (k _ _ (by simpa using hn) (k _ _ (by simpa using hn) (k _ _ (by simpa using hn) h)))).base hB
set_option maxHeartbeats 4000000 in
theorem gfresh40 (vm vc vp : Value) (bs : Nat) (ms cs ps : List (Nat × Int)) (w : World) (hm : Sl .i64 w vm ms) (hc : Sl .u64 w vc cs) (hp : Pg.Sl .i64 w vp ps) (lm : ms.length ≤ 1073741824) (lc : cs.length ≤ 1073741824) (lp : ps.length ≤ 1073741824) :
    Calls Try.prog 44 #[.agg #[vm, vc, .int .u64 (bs : Int), vp]] w fun e w' => ∃ am nm pm ac nc pc ap np pp, e = .returned (.agg #[.slice am nm pm, .slice ac nc pc, .int .u64 (bs : Int), .slice ap np pp]) ∧ OwnG w.heap.size w' (.slice am nm pm) (.slice ac nc pc) (.slice ap np pp) ms cs ps ∧ Below w.heap.size w w' := by
  obtain ⟨W, hW, hb, hsz, c0, c1, c2, c3, g0, g1, g2, g3⟩ := box44 w vm vc (.int .u64 (bs : Int)) vp (.slice none 0 0) (.slice none 0 0) (.int .u64 0) (.slice none 0 0) 29 29
  have K65 : Hid (∀ w1, Below W.heap.size W w1 → Calls Try.prog 70 #[.agg #[vm, vc]] w1 fun e w' => ∃ a n p a' n' p', e = .returned (.agg #[.slice a n p, .slice a' n' p']) ∧ w'.ownsRow (w.heap.size + 2) 80 2 (.slice a n p) ms.length (rowOf .i64 ms) ∧ w'.ownsRow (w.heap.size + 2) 85 2 (.slice a' n' p') cs.length (rowOf .u64 cs) ∧ Below w1.heap.size w1 w') := fun w1 hb1 =>
    (copied37 vm vc ms cs w1 (hm.keep (below_tr hb hb1)) (hc.keep (below_tr hb hb1)) lm lc).mono (by
      rintro e w' ⟨vm', vc', rfl, ho, ho', hB⟩
      obtain ⟨a, n, p, rfl⟩ := own_shape ho
      obtain ⟨a', n', p', rfl⟩ := own_shape ho'
      exact ⟨a, n, p, a', n', p', rfl, own_base ho (by have := hb1.size; omega), own_base ho' (by have := hb1.size; omega), hB⟩)
  have K66 : Hid (∀ b w1, Below W.heap.size W w1 → w1.cell? ⟨b, 0, none⟩ = some vp → Calls Try.prog 71 #[.slice (some ⟨b, 0, none⟩) 1 1] w1 fun e w' => ∃ a n p, e = .returned (.slice a n p) ∧ w'.ownsRow (w.heap.size + 2) 53 2 (.slice a n p) ps.length (Pg.rowOf .i64 ps) ∧ Below w1.heap.size w1 w') := fun b w1 hb1 hc1 =>
    (Pg.cat39_1 b vp ps w1 hc1 (hp.keep (below_tr hb hb1)) lp).mono (by rintro e w' ⟨v, rfl, ho, hB⟩; obtain ⟨a, n, p, rfl⟩ := own_shape ho; exact ⟨a, n, p, rfl, own_base ho (by have := hb1.size; omega), hB⟩)
  obtain ⟨xm, ym, zm, rfl⟩ : ∃ a n p, vm = .slice a n p := by obtain ⟨a, p, h, _⟩ := hm; exact ⟨_, _, _, h⟩
  obtain ⟨xc, yc, zc, rfl⟩ : ∃ a n p, vc = .slice a n p := by obtain ⟨a, p, h, _⟩ := hc; exact ⟨_, _, _, h⟩
  obtain ⟨xp, yp, zp, rfl⟩ : ∃ a n p, vp = .slice a n p := by obtain ⟨a, p, h, _⟩ := hp; exact ⟨_, _, _, h⟩
  clear hm hc hp lm lc lp
  go_enter Try.func44, Try.ntmps44
  go_wp2
  go_region_held3 (fun w' => Below w.heap.size w w' ∧ w'.cell? ⟨w.heap.size, 0, none⟩ = some (.slice xm ym zm) ∧ w'.cell? ⟨w.heap.size, 1, none⟩ = some (.slice xc yc zc) ∧ w'.cell? ⟨w.heap.size, 2, none⟩ = some (.int .u64 (bs : Int)) ∧ w'.cell? ⟨w.heap.size, 3, none⟩ = some (.slice xp yp zp) ∧ w'.cell? ⟨w.heap.size + 1, 0, none⟩ = some (cellAt w' ⟨w.heap.size + 1, 0, none⟩) ∧ w'.cell? ⟨w.heap.size + 1, 1, none⟩ = some (cellAt w' ⟨w.heap.size + 1, 1, none⟩) ∧ w'.cell? ⟨w.heap.size + 1, 2, none⟩ = some (cellAt w' ⟨w.heap.size + 1, 2, none⟩) ∧ w'.cell? ⟨w.heap.size + 1, 3, none⟩ = some (cellAt w' ⟨w.heap.size + 1, 3, none⟩) ∧ w'.frozen? ⟨w.heap.size + 1, 0, none⟩ = false ∧ w'.frozen? ⟨w.heap.size + 1, 1, none⟩ = false ∧ w'.frozen? ⟨w.heap.size + 1, 2, none⟩ = false ∧ w'.frozen? ⟨w.heap.size + 1, 3, none⟩ = false)
    (refine ⟨?_, ?_, ?_, ?_, ?_, ?_, ?_, ?_, ?_, ?_, ?_, ?_, ?_⟩ <;> first | (with_reducible refine Free.cell ?_; (repeat (first | with_reducible assumption | with_reducible refine Free.drew ?_ | with_reducible refine Free.alloc ?_ _ | with_reducible refine Free.set ?_ _ _ | with_reducible refine Free.keep (by with_reducible assumption) ?_)); done) | (with_reducible refine Free.frozen ?_; (repeat (first | with_reducible assumption | with_reducible refine Free.drew ?_ | with_reducible refine Free.alloc ?_ _ | with_reducible refine Free.set ?_ _ _ | with_reducible refine Free.keep (by with_reducible assumption) ?_)); done) | ((repeat (first | with_reducible assumption | with_reducible exact Below.refl _ _ | with_reducible refine Below.drew ?_ | with_reducible refine below_alloc ?_ _ | (with_reducible refine below_set ?_ ?_ _; rotate_left; focus (first | (simp; done) | (simp; omega))) | with_reducible refine below_tr ?_ (by with_reducible assumption))); done) | ((repeat (first | with_reducible assumption | with_reducible refine cell_drew ?_ | (with_reducible refine cell_newA _ _ _ _ _ _ ?_ rfl; (simp [*]; done)) | with_reducible refine cell_old ?_ _ | (with_reducible refine cell_far ?_ ?_ _; rotate_left; focus (first | (simp; done) | (simp; omega))) | with_reducible refine keep_cell (by with_reducible assumption) ?_)); done))
    (first | (go_at_call 70; refine (K65.out _ (by (repeat (first | with_reducible assumption | with_reducible exact Below.refl _ _ | with_reducible refine Below.drew ?_ | with_reducible refine below_alloc ?_ _ | (with_reducible refine below_set ?_ ?_ _; rotate_left; focus (first | (simp; done) | (simp; omega))) | with_reducible refine below_tr ?_ (by with_reducible assumption))))).mono ?_; rintro e w' ⟨a1, n1, p1, a2, n2, p2, rfl, ho1, ho2, hB1⟩) | (go_at_call 71; refine (K66.out _ _ (by (repeat (first | with_reducible assumption | with_reducible exact Below.refl _ _ | with_reducible refine Below.drew ?_ | with_reducible refine below_alloc ?_ _ | (with_reducible refine below_set ?_ ?_ _; rotate_left; focus (first | (simp; done) | (simp; omega))) | with_reducible refine below_tr ?_ (by with_reducible assumption)))) (by (repeat (first | with_reducible assumption | with_reducible refine cell_drew ?_ | (with_reducible refine cell_newA _ _ _ _ _ _ ?_ rfl; (simp [*]; done)) | with_reducible refine cell_old ?_ _ | (with_reducible refine cell_far ?_ ?_ _; rotate_left; focus (first | (simp; done) | (simp; omega))) | with_reducible refine keep_cell (by with_reducible assumption) ?_)))).mono ?_; rintro e w' ⟨a3, n3, p3, rfl, ho3, hB3⟩))
  all_goals (go_wp2; (try simp only [Exit.inBlock, Exit.then]))
  all_goals have r := resG4 w' (w.heap.size + 1) (.slice a1 n1 p1) (.slice a2 n2 p2) (.int .u64 (bs : Int)) (.slice a3 n3 p3) (by (repeat (first | with_reducible assumption | with_reducible refine Free.drew ?_ | with_reducible refine Free.alloc ?_ _ | with_reducible refine Free.set ?_ _ _ | with_reducible refine Free.keep (by with_reducible assumption) ?_))) (by (repeat (first | with_reducible assumption | with_reducible refine Free.drew ?_ | with_reducible refine Free.alloc ?_ _ | with_reducible refine Free.set ?_ _ _ | with_reducible refine Free.keep (by with_reducible assumption) ?_))) (by (repeat (first | with_reducible assumption | with_reducible refine Free.drew ?_ | with_reducible refine Free.alloc ?_ _ | with_reducible refine Free.set ?_ _ _ | with_reducible refine Free.keep (by with_reducible assumption) ?_))) (by (repeat (first | with_reducible assumption | with_reducible refine Free.drew ?_ | with_reducible refine Free.alloc ?_ _ | with_reducible refine Free.set ?_ _ _ | with_reducible refine Free.keep (by with_reducible assumption) ?_)))
  all_goals obtain ⟨r0, r1, r2, r3⟩ := r
  all_goals refine bodyPost_ret (v := .agg #[.slice a1 n1 p1, .slice a2 n2 p2, .int .u64 (bs : Int), .slice a3 n3 p3]) ?_ rfl ⟨_, _, _, _, _, _, _, _, _, rfl, res4_G (b := 0) (C := w.heap.size + 2) ⟨⟨(by (repeat (first | with_reducible assumption | (with_reducible refine ownsRow_setCell_below ?_ ?_ _; rotate_left; focus (first | (simp; done) | (simp; omega))) | with_reducible refine own_keep ?_ (by with_reducible assumption) | with_reducible refine own_alloc ?_ _ | with_reducible refine own_drew ?_))), (by (repeat (first | with_reducible assumption | (with_reducible refine ownsRow_setCell_below ?_ ?_ _; rotate_left; focus (first | (simp; done) | (simp; omega))) | with_reducible refine own_keep ?_ (by with_reducible assumption) | with_reducible refine own_alloc ?_ _ | with_reducible refine own_drew ?_)))⟩, (by (repeat (first | with_reducible assumption | (with_reducible refine ownsRow_setCell_below ?_ ?_ _; rotate_left; focus (first | (simp; done) | (simp; omega))) | with_reducible refine own_keep ?_ (by with_reducible assumption) | with_reducible refine own_alloc ?_ _ | with_reducible refine own_drew ?_)))⟩ (by omega) (by omega), (by (repeat (first | with_reducible assumption | with_reducible exact Below.refl _ _ | with_reducible refine Below.drew ?_ | with_reducible refine below_alloc ?_ _ | (with_reducible refine below_set ?_ ?_ _; rotate_left; focus (first | (simp; done) | (simp; omega))) | with_reducible refine below_tr ?_ (by with_reducible assumption))))⟩
  all_goals (rw [results_cell1 rfl]; simp [go_sem, r0, r1, r2, r3])
end Go.Proofs.Ytdhjmghfiodifaa
namespace Go.Proofs.Ytdhjmghfiodifaa
open Go.RowKit
set_option linter.unusedVariables false
set_option maxRecDepth 100000
/-- The k-th page of the host from Base on. -/
def hp (bs k : Nat) : Nat := bs / 16384 + k
end Go.Proofs.Ytdhjmghfiodifaa
