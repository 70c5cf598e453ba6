/- What is proved here: Store. -/
import Derived.Test.YtolmcbnammhjjaaLoad
import Derived.Test.YtolmcbnammhjjaaChanged
import Derived.Test.YtolmcbnammhjjaaExch
import Derived.Test.YtolmcbnammhjjaaCopied
import Derived.Test.YtolmcbnammhjjaaOwn2
import Derived.Test.YtolmcbnammhjjaaParts
namespace Go.Proofs.Ytolmcbnammhjjaa
open Go.RowKit
set_option linter.unusedVariables false
theorem results_cells {fn : Func} {p q : Tmp} {ty t2 : TypeId} (h : fn.results = #[.cell p ty, .cell q t2]) (tmps : Array Value) (P : Program) (w : World) :
    (results fn tmps).run P w = ((asAddr (tmps.getD p undef)).run P w).andThen fun a w₁ => ((loadVar ty a).run P w₁).andThen fun v w₂ => ((asAddr (tmps.getD q undef)).run P w₂).andThen fun b w₃ => ((loadVar t2 b).run P w₃).andThen fun u w₄ => .ok (.tuple #[v, u]) w₄ := by
  simp only [results, h]
  simp [Sem.run_bind, Result.andThen]
theorem box2c (w : World) (x0 x1 y0 y1 z0 z1 : Value) (t s r : Nat) : ∃ W, ((w.alloc (.cells #[x0, x1] t)).alloc (.cells #[y0, y1] s)).alloc (.cells #[z0, z1] r) = W ∧ Below w.heap.size w W ∧ W.heap.size = w.heap.size + 3 ∧
    W.cell? ⟨w.heap.size, 0, none⟩ = some x0 ∧ W.cell? ⟨w.heap.size, 1, none⟩ = some x1 ∧ Free W ⟨w.heap.size + 1, 0, none⟩ ∧ Free W ⟨w.heap.size + 1, 1, none⟩ ∧ Free W ⟨w.heap.size + 1 + 1, 0, none⟩ ∧ Free W ⟨w.heap.size + 1 + 1, 1, none⟩ := by
  obtain ⟨W, rfl, b1, s1, c0, c1, _, _, f0, f1⟩ := box2b w x0 x1 y0 y1 t s
  obtain ⟨W', rfl, b2, s2, d0, d1, g0, g1⟩ := box2 ((w.alloc (.cells #[x0, x1] t)).alloc (.cells #[y0, y1] s)) z0 z1 r
  rw [s1] at d0 d1 g0 g1 s2
  exact ⟨_, rfl, below_tr b1 b2, s2, keep_cell b2 c0, keep_cell b2 c1, f0.keep b2, f1.keep b2, ⟨⟨_, d0⟩, g0⟩, ⟨⟨_, d1⟩, g1⟩⟩
theorem res4 (w : World) (n m : Nat) (x y u v : Value) (hnm : n ≠ m) (h0 : Free w ⟨n, 0, none⟩) (h1 : Free w ⟨n, 1, none⟩) (h2 : Free w ⟨m, 0, none⟩) (h3 : Free w ⟨m, 1, none⟩) :
    ((((w.setCell ⟨n, 0, none⟩ x).setCell ⟨n, 1, none⟩ y).setCell ⟨m, 0, none⟩ u).setCell ⟨m, 1, none⟩ v).cell? ⟨n, 0, none⟩ = some x ∧
    ((((w.setCell ⟨n, 0, none⟩ x).setCell ⟨n, 1, none⟩ y).setCell ⟨m, 0, none⟩ u).setCell ⟨m, 1, none⟩ v).cell? ⟨n, 1, none⟩ = some y ∧
    ((((w.setCell ⟨n, 0, none⟩ x).setCell ⟨n, 1, none⟩ y).setCell ⟨m, 0, none⟩ u).setCell ⟨m, 1, none⟩ v).cell? ⟨m, 0, none⟩ = some u ∧
    ((((w.setCell ⟨n, 0, none⟩ x).setCell ⟨n, 1, none⟩ y).setCell ⟨m, 0, none⟩ u).setCell ⟨m, 1, none⟩ v).cell? ⟨m, 1, none⟩ = some v := by
  obtain ⟨a0, a1⟩ := res2 w n x y h0 h1
  obtain ⟨a2, a3⟩ := res2 ((w.setCell ⟨n, 0, none⟩ x).setCell ⟨n, 1, none⟩ y) m u v ((h2.set _ _).set _ _) ((h3.set _ _).set _ _)
  exact ⟨cell_far (cell_far a0 (by simp; omega) _) (by simp; omega) _, cell_far (cell_far a1 (by simp; omega) _) (by simp; omega) _, a2, a3⟩
theorem res4_sl {k : IntKind} {w : World} {n m : Nat} {x y u t v : Value} {xs : List (Nat × Int)} {base e : Nat} (h : w.ownsRow base e 2 v xs.length (rowOf k xs)) (hn : n < base) (hm : m < base) :
    Sl k ((((w.setCell ⟨n, 0, none⟩ x).setCell ⟨n, 1, none⟩ y).setCell ⟨m, 0, none⟩ u).setCell ⟨m, 1, none⟩ t) v xs :=
  own_sl (ownsRow_setCell_below (ownsRow_setCell_below (ownsRow_setCell_below (ownsRow_setCell_below h (by simpa using hn) _) (by simpa using hn) _) (by simpa using hm) _) (by simpa using hm) _)
/-- The cells that a number of bytes lies in, with the number put in. -/
def putCells (cs : List (Nat × Int)) (a last v : Nat) : List (Nat × Int) :=
  cellIf (cellOf a) (nowN (wordN cs (cellOf a)) (maskOf (max a (cellOf a) - cellOf a) (min last (cellOf a + 7) - cellOf a)) (v * 2 ^ (8 * (a - cellOf a)) % 18446744073709551616)) ++
  (if cellOf last = cellOf a then [] else cellIf (cellOf last) (nowN (wordN cs (cellOf last)) (maskOf (max a (cellOf last) - cellOf last) (min last (cellOf last + 7) - cellOf last)) (v / 2 ^ (8 * (cellOf last - a)))))
def storeN (cs : List (Nat × Int)) (a k v : Nat) : List (Nat × Int) := lo cs (cellOf a) ++ putCells cs a (a + k - 1) v ++ hi cs (cellOf (a + k - 1))
theorem shl64 (v s : Nat) (hs : s ≤ 64) : IntKind.u64.wrap ((v : Int) * 2 ^ min s 64) = ((v * 2 ^ s % 18446744073709551616 : Nat) : Int) := by
  rw [Nat.min_eq_left hs, IntKind.wrap_u64, Int.natCast_emod, Int.natCast_mul, Int.natCast_pow]; rfl
theorem shr64 (v s : Nat) (hs : s ≤ 64) : (v : Int) / 2 ^ min s 64 = ((v / 2 ^ s : Nat) : Int) := by
  rw [Nat.min_eq_left hs, Int.natCast_ediv, Int.natCast_pow]; rfl
theorem cellIf_len (a b : Nat) : (cellIf a b).length ≤ 1 := by unfold cellIf; split <;> simp
set_option maxHeartbeats 2000000 in
theorem store22_out (vm vc : Value) (ms cs : List (Nat × Int)) (a v : Nat) (k : Int) (w : World) (hm : Sl .i64 w vm ms) (hc : Sl .u64 w vc cs) (lm : ms.length ≤ 1073741824) (lc : cs.length ≤ 1073741822) (hn : k < 1 ∨ 8 < k) :
    Calls Try.prog 22 #[.agg #[vm, vc], .int .u64 (a : Int), .int .i64 k, .int .u64 (v : Int)] w fun e w' => ∃ vm' vc', e = .returned (.tuple #[.agg #[vm', vc'], .agg #[.int .i64 0, .int .u64 0]]) ∧ OwnH w.heap.size w' vm' vc' ms cs ∧ Below w.heap.size w w' := by
  obtain ⟨W, hW, hb, hsz, c0, c1, g0, g1, g2, g3⟩ := box2c w vm vc (.slice none 0 0) (.slice none 0 0) (.int .i64 0) (.int .u64 0) 25 25 39
  have K37 : Hid (∀ w1, Below W.heap.size W w1 → Calls Try.prog 37 #[.agg #[vm, vc]] w1 fun e w' => ∃ b1 k1 q1 b2 k2 q2, e = .returned (.agg #[.slice b1 k1 q1, .slice b2 k2 q2]) ∧ w'.ownsRow (w.heap.size + 3) 54 2 (.slice b1 k1 q1) ms.length (rowOf .i64 ms) ∧ w'.ownsRow (w.heap.size + 3) 58 2 (.slice b2 k2 q2) cs.length (rowOf .u64 cs) ∧ Below w1.heap.size w1 w') := fun w1 hb1 =>
    (copied37 vm vc ms cs w1 (hm.keep (below_tr hb hb1)) (hc.keep (below_tr hb hb1)) lm (by omega)).mono (by
      rintro e w' ⟨v1, v2, rfl, ho, ho2, hB⟩
      obtain ⟨b1, k1, q1, rfl⟩ := own_shape ho
      obtain ⟨b2, k2, q2, rfl⟩ := own_shape ho2
      have := hb1.size
      exact ⟨b1, k1, q1, b2, k2, q2, rfl, own_base ho (by omega), own_base ho2 (by omega), hB⟩)
  obtain ⟨x, nm, p, rfl⟩ : ∃ a n p, vm = .slice a n p := by obtain ⟨a, p, h, _⟩ := hm; exact ⟨_, _, _, h⟩
  obtain ⟨x', nc, p', rfl⟩ : ∃ a n p, vc = .slice a n p := by obtain ⟨a, p, h, _⟩ := hc; exact ⟨_, _, _, h⟩
  clear hm hc
  rcases hn with hn | hn
  · go_enter Try.func22, Try.ntmps22
    go_wp2_with fail
    refine (K37.out _ (by (repeat (first | with_reducible assumption | with_reducible exact Below.refl _ _ | with_reducible refine Below.drew ?_ | with_reducible refine below_alloc ?_ _ | (with_reducible refine below_set ?_ ?_ _; rotate_left; focus (first | (simp; done) | (simp; omega))) | with_reducible refine below_tr ?_ (by with_reducible assumption))))).mono ?_
    rintro e w9 ⟨b1, k1', q1, b2, k2, q2, rfl, ho, ho2, hb9⟩
    have G0 : Free w9 ⟨w.heap.size + 1, 0, none⟩ := (by (repeat (first | with_reducible assumption | with_reducible refine Free.drew ?_ | with_reducible refine Free.alloc ?_ _ | with_reducible refine Free.set ?_ _ _ | with_reducible refine Free.keep (by with_reducible assumption) ?_)))
    have G1 : Free w9 ⟨w.heap.size + 1, 1, none⟩ := (by (repeat (first | with_reducible assumption | with_reducible refine Free.drew ?_ | with_reducible refine Free.alloc ?_ _ | with_reducible refine Free.set ?_ _ _ | with_reducible refine Free.keep (by with_reducible assumption) ?_)))
    have G2 : Free w9 ⟨w.heap.size + 1 + 1, 0, none⟩ := (by (repeat (first | with_reducible assumption | with_reducible refine Free.drew ?_ | with_reducible refine Free.alloc ?_ _ | with_reducible refine Free.set ?_ _ _ | with_reducible refine Free.keep (by with_reducible assumption) ?_)))
    have G3 : Free w9 ⟨w.heap.size + 1 + 1, 1, none⟩ := (by (repeat (first | with_reducible assumption | with_reducible refine Free.drew ?_ | with_reducible refine Free.alloc ?_ _ | with_reducible refine Free.set ?_ _ _ | with_reducible refine Free.keep (by with_reducible assumption) ?_)))
    have i0 := G0.cell
    have i1 := G1.cell
    have i2 := G2.cell
    have i3 := G3.cell
    have j0 := G0.frozen
    have j1 := G1.frozen
    have j2 := G2.frozen
    have j3 := G3.frozen
    have SM : Hid (World.ownsRow ((((w9.setCell ⟨w.heap.size + 1, 0, none⟩ (.slice b1 k1' q1)).setCell ⟨w.heap.size + 1, 1, none⟩ (.slice b2 k2 q2)).setCell ⟨w.heap.size + 1 + 1, 0, none⟩ (.int .i64 0)).setCell ⟨w.heap.size + 1 + 1, 1, none⟩ (.int .u64 0)) w.heap.size 54 2 (.slice b1 k1' q1) ms.length (rowOf .i64 ms)) := res4_own ho (by omega) (by omega) (by omega)
    have SC : Hid (World.ownsRow ((((w9.setCell ⟨w.heap.size + 1, 0, none⟩ (.slice b1 k1' q1)).setCell ⟨w.heap.size + 1, 1, none⟩ (.slice b2 k2 q2)).setCell ⟨w.heap.size + 1 + 1, 0, none⟩ (.int .i64 0)).setCell ⟨w.heap.size + 1 + 1, 1, none⟩ (.int .u64 0)) w.heap.size 58 2 (.slice b2 k2 q2) cs.length (rowOf .u64 cs)) := res4_own ho2 (by omega) (by omega) (by omega)
    clear ho ho2
    go_wp2
    (try simp only [Exit.inBlock, Exit.then])
    obtain ⟨r0, r1, r2, r3⟩ := res4 w9 (w.heap.size + 1) (w.heap.size + 1 + 1) (.slice b1 k1' q1) (.slice b2 k2 q2) (.int .i64 0) (.int .u64 0) (by omega) G0 G1 G2 G3
    refine bodyPost_ret (v := .tuple #[.agg #[.slice b1 k1' q1, .slice b2 k2 q2], .agg #[.int .i64 0, .int .u64 0]]) ?_ rfl ⟨_, _, rfl, ⟨SM.out, SC.out⟩, (by (repeat (first | with_reducible assumption | with_reducible exact Below.refl _ _ | with_reducible refine Below.drew ?_ | with_reducible refine below_alloc ?_ _ | (with_reducible refine below_set ?_ ?_ _; rotate_left; focus (first | (simp; done) | (simp; omega))) | with_reducible refine below_tr ?_ (by with_reducible assumption))))⟩
    rw [results_cells rfl]; simp [go_sem, r0, r1, r2, r3]
  · go_enter Try.func22, Try.ntmps22
    go_wp2_with fail
    refine (K37.out _ (by (repeat (first | with_reducible assumption | with_reducible exact Below.refl _ _ | with_reducible refine Below.drew ?_ | with_reducible refine below_alloc ?_ _ | (with_reducible refine below_set ?_ ?_ _; rotate_left; focus (first | (simp; done) | (simp; omega))) | with_reducible refine below_tr ?_ (by with_reducible assumption))))).mono ?_
    rintro e w9 ⟨b1, k1', q1, b2, k2, q2, rfl, ho, ho2, hb9⟩
    have G0 : Free w9 ⟨w.heap.size + 1, 0, none⟩ := (by (repeat (first | with_reducible assumption | with_reducible refine Free.drew ?_ | with_reducible refine Free.alloc ?_ _ | with_reducible refine Free.set ?_ _ _ | with_reducible refine Free.keep (by with_reducible assumption) ?_)))
    have G1 : Free w9 ⟨w.heap.size + 1, 1, none⟩ := (by (repeat (first | with_reducible assumption | with_reducible refine Free.drew ?_ | with_reducible refine Free.alloc ?_ _ | with_reducible refine Free.set ?_ _ _ | with_reducible refine Free.keep (by with_reducible assumption) ?_)))
    have G2 : Free w9 ⟨w.heap.size + 1 + 1, 0, none⟩ := (by (repeat (first | with_reducible assumption | with_reducible refine Free.drew ?_ | with_reducible refine Free.alloc ?_ _ | with_reducible refine Free.set ?_ _ _ | with_reducible refine Free.keep (by with_reducible assumption) ?_)))
    have G3 : Free w9 ⟨w.heap.size + 1 + 1, 1, none⟩ := (by (repeat (first | with_reducible assumption | with_reducible refine Free.drew ?_ | with_reducible refine Free.alloc ?_ _ | with_reducible refine Free.set ?_ _ _ | with_reducible refine Free.keep (by with_reducible assumption) ?_)))
    have i0 := G0.cell
    have i1 := G1.cell
    have i2 := G2.cell
    have i3 := G3.cell
    have j0 := G0.frozen
    have j1 := G1.frozen
    have j2 := G2.frozen
    have j3 := G3.frozen
    have SM : Hid (World.ownsRow ((((w9.setCell ⟨w.heap.size + 1, 0, none⟩ (.slice b1 k1' q1)).setCell ⟨w.heap.size + 1, 1, none⟩ (.slice b2 k2 q2)).setCell ⟨w.heap.size + 1 + 1, 0, none⟩ (.int .i64 0)).setCell ⟨w.heap.size + 1 + 1, 1, none⟩ (.int .u64 0)) w.heap.size 54 2 (.slice b1 k1' q1) ms.length (rowOf .i64 ms)) := res4_own ho (by omega) (by omega) (by omega)
    have SC : Hid (World.ownsRow ((((w9.setCell ⟨w.heap.size + 1, 0, none⟩ (.slice b1 k1' q1)).setCell ⟨w.heap.size + 1, 1, none⟩ (.slice b2 k2 q2)).setCell ⟨w.heap.size + 1 + 1, 0, none⟩ (.int .i64 0)).setCell ⟨w.heap.size + 1 + 1, 1, none⟩ (.int .u64 0)) w.heap.size 58 2 (.slice b2 k2 q2) cs.length (rowOf .u64 cs)) := res4_own ho2 (by omega) (by omega) (by omega)
    clear ho ho2
    go_wp2
    (try simp only [Exit.inBlock, Exit.then])
    obtain ⟨r0, r1, r2, r3⟩ := res4 w9 (w.heap.size + 1) (w.heap.size + 1 + 1) (.slice b1 k1' q1) (.slice b2 k2 q2) (.int .i64 0) (.int .u64 0) (by omega) G0 G1 G2 G3
    refine bodyPost_ret (v := .tuple #[.agg #[.slice b1 k1' q1, .slice b2 k2 q2], .agg #[.int .i64 0, .int .u64 0]]) ?_ rfl ⟨_, _, rfl, ⟨SM.out, SC.out⟩, (by (repeat (first | with_reducible assumption | with_reducible exact Below.refl _ _ | with_reducible refine Below.drew ?_ | with_reducible refine below_alloc ?_ _ | (with_reducible refine below_set ?_ ?_ _; rotate_left; focus (first | (simp; done) | (simp; omega))) | with_reducible refine below_tr ?_ (by with_reducible assumption))))⟩
    rw [results_cells rfl]; simp [go_sem, r0, r1, r2, r3]
set_option maxHeartbeats 4000000 in
theorem store22_ok (vm vc : Value) (ms cs : List (Nat × Int)) (a k v : Nat) (w : World) (hm : Sl .i64 w vm ms) (hc : Sl .u64 w vc cs) (sm : Srt ms) (sc : Srt cs) (lm : ms.length ≤ 1073741824) (lc : cs.length ≤ 1073741822) (hw : Words cs)
    (ha : a < 18446744073709551616) (k1 : 1 ≤ k) (k8 : k ≤ 8) (hv : v < 18446744073709551616) (hf : (faultFrom ms a 2 0 k).1 = 0) :
    Calls Try.prog 22 #[.agg #[vm, vc], .int .u64 (a : Int), .int .i64 (k : Int), .int .u64 (v : Int)] w fun e w' => ∃ vm' vc', e = .returned (.tuple #[.agg #[vm', vc'], .agg #[.int .i64 0, .int .u64 0]]) ∧ OwnH w.heap.size w' vm' vc' ms (storeN cs a k v) ∧ Below w.heap.size w w' := by
  obtain ⟨W, hW, hb, hsz, c0, c1, g0, g1, g2, g3⟩ := box2c w vm vc (.slice none 0 0) (.slice none 0 0) (.int .i64 0) (.int .u64 0) 25 25 39
  obtain ⟨hf0, hfj⟩ := faultFrom_kind ms a 2 k 0 hf
  have hlast : a + (k - 1) < 18446744073709551616 := faultK_lt ms a (k - 1) 2 (hfj _ (by omega) (by omega))
  obtain ⟨last, hl⟩ : ∃ last, last = a + k - 1 := ⟨_, rfl⟩
  obtain ⟨x, nm, p, rfl⟩ : ∃ a n p, vm = .slice a n p := by obtain ⟨a, p, h, _⟩ := hm; exact ⟨_, _, _, h⟩
  obtain ⟨x', nc, p', rfl⟩ : ∃ a n p, vc = .slice a n p := by obtain ⟨a, p, h, _⟩ := hc; exact ⟨_, _, _, h⟩
  have K44 : Hid (Calls Try.prog 44 #[.agg #[.slice x nm p, .slice x' nc p'], .int .u64 (a : Int), .int .u64 (k : Int), .int .i64 2] W fun e w' => e = .returned (.agg #[.int .i64 0, .int .u64 0]) ∧ Below W.heap.size W w') := by
    have h := firstFault44 (.slice x nm p) (.slice x' nc p') ms a k 2 W (hm.keep hb) ⟨_, _, _, rfl⟩ sm lm ha k8
    rw [hf0] at h
    exact h
  have K45 : Hid (∀ (b : Nat) w', b < 18446744073709551616 → Calls Try.prog 45 #[.int .u64 (b : Int)] w' fun e w'' => e = .returned (.int .u64 ((cellOf b : Nat) : Int)) ∧ w'' = w') := fun b w' hb' => cellOf45 b hb' w'
  have K46 : Hid (∀ (b : Nat) w', Below W.heap.size W w' → Calls Try.prog 46 #[.agg #[.slice x nm p, .slice x' nc p'], .int .u64 (b : Int)] w' fun e w'' => e = .returned (.int .u64 ((wordN cs b : Nat) : Int)) ∧ Below w'.heap.size w' w'') := fun b w' hb' => by
    have h := word46 (.slice x nm p) (.slice x' nc p') cs b w' ⟨_, _, _, rfl⟩ (hc.keep (below_tr hb hb')) sc (by omega)
    rw [wordOf_eq cs hw] at h
    exact h
  have HL : Hid (last = a + k - 1 ∧ a < 18446744073709551616 ∧ last < 18446744073709551616 ∧ a ≤ last ∧ last < a + 8) := ⟨hl, ha, by omega, by omega, by omega⟩
  have HW : Hid (Words cs) := hw
  obtain ⟨low, hlow⟩ : ∃ c, c = cellOf a := ⟨_, rfl⟩
  obtain ⟨high, hhigh⟩ : ∃ c, c = cellOf last := ⟨_, rfl⟩
  have HC : Hid (low = cellOf a ∧ high = cellOf last) := ⟨hlow, hhigh⟩
  have hwl : IntKind.u64.wrap (IntKind.u64.wrap ((a : Int) + (k : Int)) - 1) = (last : Int) := by rw [IntKind.wrap_u64, IntKind.wrap_u64]; omega
  obtain ⟨M1, hM1⟩ : ∃ M, M = maskOf (max a low - low) (min last (low + 7) - low) := ⟨_, rfl⟩
  obtain ⟨M2, hM2⟩ : ∃ M, M = maskOf (max a high - high) (min last (high + 7) - high) := ⟨_, rfl⟩
  have c1' := cellOf_facts a
  have c2' := cellOf_facts last
  rw [← hlow] at c1'
  rw [← hhigh] at c2'
  have hlh : low ≤ high := by omega
  have K47 : Hid (∀ w', Calls Try.prog 47 #[.int .u64 (low : Int), .int .u64 (a : Int), .int .u64 (last : Int)] w' fun e w'' => e = .returned (.int .u64 (M1 : Int)) ∧ w'' = w') := fun w' => by
    rw [hM1]; exact bitsOf47 low a last w' c1'.1 (by omega) ha (by omega) (by omega) (by omega)
  have K47' : Hid (∀ w', Calls Try.prog 47 #[.int .u64 (high : Int), .int .u64 (a : Int), .int .u64 (last : Int)] w' fun e w'' => e = .returned (.int .u64 (M2 : Int)) ∧ w'' = w') := fun w' => by
    rw [hM2]; exact bitsOf47 high a last w' c2'.1 (by omega) ha (by omega) (by omega) (by omega)
  have HM : Hid (M1 < 18446744073709551616 ∧ M2 < 18446744073709551616) := ⟨by rw [hM1]; exact mask_lt _ _, by rw [hM2]; exact mask_lt _ _⟩
  have hWL : Hid (∀ b, wordN cs b < 18446744073709551616) := wordN_lt cs hw
  have K50 : Hid (∀ w', Below W.heap.size W w' → Calls Try.prog 50 #[.slice x' nc p', .func (.func 30) #[] #[], .int .u64 (low : Int), .int .u64 (high : Int)] w'
      fun e w'' => e = .returned (.tuple #[.int .i64 ((lo cs low).length : Int), .int .i64 (((lo cs low).length + (mid cs low high).length : Nat) : Int)]) ∧ Below w'.heap.size w' w'') := fun w' hb' => span50s _ cs low high w' (hc.keep (below_tr hb hb')) sc (by omega) hlh
  obtain ⟨f, hfdef⟩ : ∃ f, f = (lo cs low).length := ⟨_, rfl⟩
  obtain ⟨t, htdef⟩ : ∃ t, t = (lo cs low).length + (mid cs low high).length := ⟨_, rfl⟩
  have hlen := parts_len cs sc low high hlh
  have u1 : cs.take f = lo cs low := by rw [hfdef]; exact parts_take cs sc low high hlh
  have u2 : cs.drop t = hi cs high := by rw [htdef]; exact parts_drop cs sc low high hlh
  rw [← htdef, ← hfdef] at K50
  have K51 : Hid (∀ vn ns w1, Below W.heap.size W w1 → Sl .u64 w1 vn ns → ns.length ≤ 2 → Calls Try.prog 51 #[.agg #[.slice x nm p, .slice x' nc p'], .int .i64 (f : Int), .int .i64 (t : Int), vn] w1 fun e w' => ∃ b1 k1 q1 b2 k2 q2, e = .returned (.agg #[.slice b1 k1 q1, .slice b2 k2 q2]) ∧ w'.ownsRow (w.heap.size + 3) 54 2 (.slice b1 k1 q1) ms.length (rowOf .i64 ms) ∧
      w'.ownsRow (w.heap.size + 3) 58 2 (.slice b2 k2 q2) (lo cs low ++ ns ++ hi cs high).length (rowOf .u64 (lo cs low ++ ns ++ hi cs high)) ∧ Below w1.heap.size w1 w') := fun vn ns w1 hb1 hsn hns => by
    have h := exchanged51 (.slice x nm p) (.slice x' nc p') vn ms cs ns f t w1 (hm.keep (below_tr hb hb1)) (hc.keep (below_tr hb hb1)) hsn lm (by rw [u1, u2]; simp; omega) (by omega) (by omega) (by omega)
    rw [u1, u2] at h
    refine h.mono ?_
    rintro e w' ⟨v1, v2, rfl, ho, ho2, hB⟩
    obtain ⟨b1, k1, q1, rfl⟩ := own_shape ho
    obtain ⟨b2, k2, q2, rfl⟩ := own_shape ho2
    have := hb1.size
    exact ⟨b1, k1, q1, b2, k2, q2, rfl, own_base ho (by omega), own_base ho2 (by omega), hB⟩
  have HCF : Hid (low % 8 = 0 ∧ low ≤ a ∧ a ≤ low + 7 ∧ high % 8 = 0 ∧ high ≤ last ∧ last ≤ high + 7) := ⟨c1'.1, c1'.2.1, c1'.2.2, c2'.1, c2'.2.1, c2'.2.2⟩
  obtain ⟨V1, hV1⟩ : ∃ V, V = v * 2 ^ (8 * (a - low)) % 18446744073709551616 := ⟨_, rfl⟩
  obtain ⟨V2, hV2⟩ : ∃ V, V = v / 2 ^ (8 * (high - a)) := ⟨_, rfl⟩
  have HV : Hid (V1 < 18446744073709551616 ∧ V2 < 18446744073709551616) := ⟨by omega, by rw [hV2]; exact Nat.lt_of_le_of_lt (Nat.div_le_self _ _) hv⟩
  have y1 : IntKind.u64.wrap ((v : Int) * 2 ^ min (IntKind.u64.wrap (8 * IntKind.u64.wrap ((a : Int) - (low : Int)))).toNat 64) = (V1 : Int) := by
    rw [shiftE a low c1'.2.1 c1'.2.2 ha, shl64 _ _ (by omega), hV1]
  have HY2 : Hid (¬ high = low → (v : Int) / 2 ^ min (IntKind.u64.wrap (8 * IntKind.u64.wrap ((high : Int) - (a : Int)))).toNat 64 = (V2 : Int)) := fun hne => by
    rw [shiftE high a (by omega) (by omega) (by omega), shr64 _ _ (by omega), hV2]
  have HS : Hid (storeN cs a k v = lo cs low ++ (cellIf low (nowN (wordN cs low) M1 V1) ++ (if high = low then [] else cellIf high (nowN (wordN cs high) M2 V2))) ++ hi cs high) := by
    show _ = _
    rw [storeN, putCells, ← hl, ← hlow, ← hhigh, ← hM1, ← hM2, ← hV1, ← hV2]
  have hlenW : W.heap.size = w.heap.size + 3 := hsz
  clear hM1 hM2 c1' c2' hfdef htdef hlen u1 u2 hV1 hV2
  clear hm hc sm sc hf hfj hf0 hlast hl hw ha hlow hhigh hlh
  obtain ⟨ZS, hZS⟩ : ∃ z, z = storeN cs a k v := ⟨_, rfl⟩
  rw [← hZS]
  have HZ : Hid (ZS = lo cs low ++ (cellIf low (nowN (wordN cs low) M1 V1) ++ (if high = low then [] else cellIf high (nowN (wordN cs high) M2 V2))) ++ hi cs high) := hZS.trans HS.out
  clear HS hZS
  go_enter Try.func22, Try.ntmps22
  go_wp2_with fail
  refine K44.out.mono ?_
  rintro e w1 ⟨rfl, hb1⟩
  have e0 := keep_cell hb1 c0
  have e1 := keep_cell hb1 c1
  go_wp2_with fail
  obtain ⟨W3, hW3, hb3, _, m0, m1, _, _⟩ := box2 w1 (.int .i64 0) (.int .u64 0) 39
  have e0 := keep_cell hb3 e0
  have e1 := keep_cell hb3 e1
  rw [hW3]
  refine (K45.out a W3 HL.out.2.1).mono ?_
  rintro e w4 ⟨rfl, h4⟩
  subst h4
  rw [← HC.out.1]
  go_wp2_with fail
  refine (K45.out last w4 HL.out.2.2.1).mono ?_
  rintro e w5 ⟨rfl, h5⟩
  subst h5
  rw [← HC.out.2]
  go_wp2_with fail
  refine (K46.out low w5 (below_tr hb1 hb3)).mono ?_
  rintro e w6 ⟨rfl, hb6⟩
  have e0 := keep_cell hb6 e0
  have e1 := keep_cell hb6 e1
  go_wp2_with fail
  refine (K47.out w6).mono ?_
  rintro e w7 ⟨rfl, h7⟩
  subst h7
  have hbW : Below W.heap.size W w7 := below_tr (below_tr hb1 hb3) hb6
  clear e0 e1 hb1 hb3 hb6 m0 m1 hW3
  go_wp2_with fail
  refine (changed49 (.slice none 0 0) [] low (wordN cs low) M1 V1 W.heap.size w7 (World.ownsRow_nil _ _ _ _) hbW.size (by simp) (hWL.out _) HM.out.1 HV.out.1).mono ?_
  rintro e w8 ⟨cv, rfl, how, hb8, _⟩
  have hbW8 : Below W.heap.size W w8 := hbW.trans hb8
  have e0 := keep_cell hbW8 c0
  have e1 := keep_cell hbW8 c1
  have HO : Hid (w8.ownsRow W.heap.size 58 2 cv (cellIf low (nowN (wordN cs low) M1 V1)).length (rowOf .u64 (cellIf low (nowN (wordN cs low) M1 V1)))) := by have h := how; simp only [List.nil_append] at h; exact h
  obtain ⟨ca, cn, cp, rfl⟩ := own_shape how
  clear how hb8 hbW
  by_cases hhl : high = low
  · subst hhl
    go_wp2_with fail
    refine (K50.out w8 hbW8).mono ?_
    rintro e wa ⟨rfl, hba⟩
    have hbWa : Below W.heap.size W wa := below_tr hbW8 hba
    have e0 := keep_cell hba e0
    have e1 := keep_cell hba e1
    go_wp2_with fail
    refine (K51.out _ (cellIf high (nowN (wordN cs high) M1 V1)) wa hbWa (own_sl (own_keep HO.out hba)) (Nat.le_trans (cellIf_len _ _) (by omega))).mono ?_
    rintro e w9 ⟨b1, k1', q1, b2, k2, q2, rfl, ho, ho2, hb9⟩
    have F0 := g0.keep hbWa
    have F1 := g1.keep hbWa
    have F2 := g2.keep hbWa
    have F3 := g3.keep hbWa
    have hbwa := below_tr hb hbWa
    have ho2 : w9.ownsRow (w.heap.size + 3) 58 2 (.slice b2 k2 q2) ZS.length (rowOf .u64 ZS) := by
      have h := HZ.out
      simp only [↓reduceIte, List.append_nil] at h
      rw [h]
      exact ho2
    have G0 : Free w9 ⟨w.heap.size + 1, 0, none⟩ := (by (repeat (first | with_reducible assumption | with_reducible refine Free.drew ?_ | with_reducible refine Free.alloc ?_ _ | with_reducible refine Free.set ?_ _ _ | with_reducible refine Free.keep (by with_reducible assumption) ?_)))
    have G1 : Free w9 ⟨w.heap.size + 1, 1, none⟩ := (by (repeat (first | with_reducible assumption | with_reducible refine Free.drew ?_ | with_reducible refine Free.alloc ?_ _ | with_reducible refine Free.set ?_ _ _ | with_reducible refine Free.keep (by with_reducible assumption) ?_)))
    have G2 : Free w9 ⟨w.heap.size + 1 + 1, 0, none⟩ := (by (repeat (first | with_reducible assumption | with_reducible refine Free.drew ?_ | with_reducible refine Free.alloc ?_ _ | with_reducible refine Free.set ?_ _ _ | with_reducible refine Free.keep (by with_reducible assumption) ?_)))
    have G3 : Free w9 ⟨w.heap.size + 1 + 1, 1, none⟩ := (by (repeat (first | with_reducible assumption | with_reducible refine Free.drew ?_ | with_reducible refine Free.alloc ?_ _ | with_reducible refine Free.set ?_ _ _ | with_reducible refine Free.keep (by with_reducible assumption) ?_)))
    have i0 := G0.cell
    have i1 := G1.cell
    have i2 := G2.cell
    have i3 := G3.cell
    have j0 := G0.frozen
    have j1 := G1.frozen
    have j2 := G2.frozen
    have j3 := G3.frozen
    have SM : Hid (World.ownsRow ((((w9.setCell ⟨w.heap.size + 1, 0, none⟩ (.slice b1 k1' q1)).setCell ⟨w.heap.size + 1, 1, none⟩ (.slice b2 k2 q2)).setCell ⟨w.heap.size + 1 + 1, 0, none⟩ (.int .i64 0)).setCell ⟨w.heap.size + 1 + 1, 1, none⟩ (.int .u64 0)) w.heap.size 54 2 (.slice b1 k1' q1) ms.length (rowOf .i64 ms)) := res4_own ho (by omega) (by omega) (by omega)
    have SC : Hid (World.ownsRow ((((w9.setCell ⟨w.heap.size + 1, 0, none⟩ (.slice b1 k1' q1)).setCell ⟨w.heap.size + 1, 1, none⟩ (.slice b2 k2 q2)).setCell ⟨w.heap.size + 1 + 1, 0, none⟩ (.int .i64 0)).setCell ⟨w.heap.size + 1 + 1, 1, none⟩ (.int .u64 0)) w.heap.size 58 2 (.slice b2 k2 q2) ZS.length (rowOf .u64 ZS)) := res4_own ho2 (by omega) (by omega) (by omega)
    clear ho ho2
    go_wp2
    (try simp only [Exit.inBlock, Exit.then])
    obtain ⟨r0, r1, r2, r3⟩ := res4 w9 (w.heap.size + 1) (w.heap.size + 1 + 1) (.slice b1 k1' q1) (.slice b2 k2 q2) (.int .i64 0) (.int .u64 0) (by omega) G0 G1 G2 G3
    refine bodyPost_ret (v := .tuple #[.agg #[.slice b1 k1' q1, .slice b2 k2 q2], .agg #[.int .i64 0, .int .u64 0]]) ?_ rfl ⟨_, _, rfl, ⟨SM.out, SC.out⟩, (by (repeat (first | with_reducible assumption | with_reducible exact Below.refl _ _ | with_reducible refine Below.drew ?_ | with_reducible refine below_alloc ?_ _ | (with_reducible refine below_set ?_ ?_ _; rotate_left; focus (first | (simp; done) | (simp; omega))) | with_reducible refine below_tr ?_ (by with_reducible assumption))))⟩
    rw [results_cells rfl]; simp [go_sem, r0, r1, r2, r3]
  · have hne : ((high : Int) != (low : Int)) = true := by simp; omega
    have y2 := HY2.out hhl
    have HHL : Hid (¬ high = low) := hhl
    clear hhl
    go_wp2_with fail
    refine (K46.out high w8 hbW8).mono ?_
    rintro e wa ⟨rfl, hba⟩
    have hbWa : Below W.heap.size W wa := below_tr hbW8 hba
    have e0 := keep_cell hba e0
    have e1 := keep_cell hba e1
    go_wp2_with fail
    refine (K47'.out wa).mono ?_
    rintro e wb ⟨rfl, hbb⟩
    subst hbb
    clear e0 e1
    go_wp2_with fail
    refine (changed49 _ (cellIf low (nowN (wordN cs low) M1 V1)) high (wordN cs high) M2 V2 W.heap.size wb (own_keep HO.out hba) hbWa.size (Nat.le_trans (cellIf_len _ _) (by omega)) (hWL.out _) HM.out.2 HV.out.2).mono ?_
    rintro e wc ⟨cv', rfl, how, hbc, _⟩
    have hbWc : Below W.heap.size W wc := hbWa.trans hbc
    have e0 := keep_cell hbWc c0
    have e1 := keep_cell hbWc c1
    have HO2 : Hid (wc.ownsRow W.heap.size 58 2 cv' (cellIf low (nowN (wordN cs low) M1 V1) ++ cellIf high (nowN (wordN cs high) M2 V2)).length (rowOf .u64 (cellIf low (nowN (wordN cs low) M1 V1) ++ cellIf high (nowN (wordN cs high) M2 V2)))) := how
    obtain ⟨ca', cn', cp', rfl⟩ := own_shape how
    clear how hbc
    go_wp2_with fail
    refine (K50.out wc hbWc).mono ?_
    rintro e wd ⟨rfl, hbd⟩
    have hbWd : Below W.heap.size W wd := below_tr hbWc hbd
    have e0 := keep_cell hbd e0
    have e1 := keep_cell hbd e1
    go_wp2_with fail
    refine (K51.out _ _ wd hbWd (own_sl (own_keep HO2.out hbd)) (by rw [List.length_append]; exact Nat.add_le_add (cellIf_len _ _) (cellIf_len _ _))).mono ?_
    rintro e w9 ⟨b1, k1', q1, b2, k2, q2, rfl, ho, ho2, hb9⟩
    have F0 := g0.keep hbWd
    have F1 := g1.keep hbWd
    have F2 := g2.keep hbWd
    have F3 := g3.keep hbWd
    have hbwd := below_tr hb hbWd
    have ho2 : w9.ownsRow (w.heap.size + 3) 58 2 (.slice b2 k2 q2) ZS.length (rowOf .u64 ZS) := by
      have h := HZ.out
      rw [if_neg HHL.out] at h
      rw [h]
      exact ho2
    have G0 : Free w9 ⟨w.heap.size + 1, 0, none⟩ := (by (repeat (first | with_reducible assumption | with_reducible refine Free.drew ?_ | with_reducible refine Free.alloc ?_ _ | with_reducible refine Free.set ?_ _ _ | with_reducible refine Free.keep (by with_reducible assumption) ?_)))
    have G1 : Free w9 ⟨w.heap.size + 1, 1, none⟩ := (by (repeat (first | with_reducible assumption | with_reducible refine Free.drew ?_ | with_reducible refine Free.alloc ?_ _ | with_reducible refine Free.set ?_ _ _ | with_reducible refine Free.keep (by with_reducible assumption) ?_)))
    have G2 : Free w9 ⟨w.heap.size + 1 + 1, 0, none⟩ := (by (repeat (first | with_reducible assumption | with_reducible refine Free.drew ?_ | with_reducible refine Free.alloc ?_ _ | with_reducible refine Free.set ?_ _ _ | with_reducible refine Free.keep (by with_reducible assumption) ?_)))
    have G3 : Free w9 ⟨w.heap.size + 1 + 1, 1, none⟩ := (by (repeat (first | with_reducible assumption | with_reducible refine Free.drew ?_ | with_reducible refine Free.alloc ?_ _ | with_reducible refine Free.set ?_ _ _ | with_reducible refine Free.keep (by with_reducible assumption) ?_)))
    have i0 := G0.cell
    have i1 := G1.cell
    have i2 := G2.cell
    have i3 := G3.cell
    have j0 := G0.frozen
    have j1 := G1.frozen
    have j2 := G2.frozen
    have j3 := G3.frozen
    have SM : Hid (World.ownsRow ((((w9.setCell ⟨w.heap.size + 1, 0, none⟩ (.slice b1 k1' q1)).setCell ⟨w.heap.size + 1, 1, none⟩ (.slice b2 k2 q2)).setCell ⟨w.heap.size + 1 + 1, 0, none⟩ (.int .i64 0)).setCell ⟨w.heap.size + 1 + 1, 1, none⟩ (.int .u64 0)) w.heap.size 54 2 (.slice b1 k1' q1) ms.length (rowOf .i64 ms)) := res4_own ho (by omega) (by omega) (by omega)
    have SC : Hid (World.ownsRow ((((w9.setCell ⟨w.heap.size + 1, 0, none⟩ (.slice b1 k1' q1)).setCell ⟨w.heap.size + 1, 1, none⟩ (.slice b2 k2 q2)).setCell ⟨w.heap.size + 1 + 1, 0, none⟩ (.int .i64 0)).setCell ⟨w.heap.size + 1 + 1, 1, none⟩ (.int .u64 0)) w.heap.size 58 2 (.slice b2 k2 q2) ZS.length (rowOf .u64 ZS)) := res4_own ho2 (by omega) (by omega) (by omega)
    clear ho ho2
    go_wp2
    (try simp only [Exit.inBlock, Exit.then])
    obtain ⟨r0, r1, r2, r3⟩ := res4 w9 (w.heap.size + 1) (w.heap.size + 1 + 1) (.slice b1 k1' q1) (.slice b2 k2 q2) (.int .i64 0) (.int .u64 0) (by omega) G0 G1 G2 G3
    refine bodyPost_ret (v := .tuple #[.agg #[.slice b1 k1' q1, .slice b2 k2 q2], .agg #[.int .i64 0, .int .u64 0]]) ?_ rfl ⟨_, _, rfl, ⟨SM.out, SC.out⟩, (by (repeat (first | with_reducible assumption | with_reducible exact Below.refl _ _ | with_reducible refine Below.drew ?_ | with_reducible refine below_alloc ?_ _ | (with_reducible refine below_set ?_ ?_ _; rotate_left; focus (first | (simp; done) | (simp; omega))) | with_reducible refine below_tr ?_ (by with_reducible assumption))))⟩
    rw [results_cells rfl]; simp [go_sem, r0, r1, r2, r3]
end Go.Proofs.Ytolmcbnammhjjaa
