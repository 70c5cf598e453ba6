/- What is proved here: a memory of its own that holds the same. -/
import Derived.Test.YtpaanfeleeomnaaHeld
import Derived.Test.YtpaanfeleeomnaaSpan
import Derived.Test.YtpaanfeleeomnaaSmall
import Derived.Test.YtpaanfeleeomnaaChanged
namespace Go.Proofs.Ytpaanfeleeomnaa
open Go.RowKit
set_option maxRecDepth 100000
set_option linter.unusedVariables false
set_option maxHeartbeats 2000000 in
theorem copied37 (vm vc : Value) (ms cs : List (Nat × Int)) (w : World) (hm : Sl .i64 w vm ms) (hc : Sl .u64 w vc cs) (lm : ms.length ≤ 1073741824) (lc : cs.length ≤ 1073741824) :
    Calls Try.prog 65 #[.agg #[vm, vc]] w fun e w' => ∃ vm' vc', e = .returned (.agg #[vm', vc']) ∧ w'.ownsRow w.heap.size 56 2 vm' ms.length (rowOf .i64 ms) ∧ w'.ownsRow w.heap.size 61 2 vc' cs.length (rowOf .u64 cs) ∧ Below w.heap.size w w' := by
  obtain ⟨W, hW, hb, hsz, c0, c1, _, _, g0, g1⟩ := box2b w vm vc (.slice none 0 0) (.slice none 0 0) 25 25
  have K39 : Hid (∀ b w1, Below W.heap.size W w1 → w1.cell? ⟨b, 0, none⟩ = some vm → Calls Try.prog 76 #[.slice (some ⟨b, 0, none⟩) 1 1] w1 fun e w' => ∃ a n p, e = .returned (.slice a n p) ∧ w'.ownsRow (w.heap.size + 2) 56 2 (.slice a n p) ms.length (rowOf .i64 ms) ∧ Below w1.heap.size w1 w') := fun b w1 hb1 hc1 =>
    (cat39_1 b vm ms w1 hc1 (hm.keep (below_tr hb hb1)) lm).mono (by rintro e w' ⟨v, rfl, ho, hB⟩; obtain ⟨a, n, p, rfl⟩ := own_shape ho; exact ⟨a, n, p, rfl, own_base ho (by have := hb1.size; omega), hB⟩)
  have K40 : Hid (∀ b w1, Below W.heap.size W w1 → w1.cell? ⟨b, 0, none⟩ = some vc → Calls Try.prog 77 #[.slice (some ⟨b, 0, none⟩) 1 1] w1 fun e w' => ∃ a n p, e = .returned (.slice a n p) ∧ w'.ownsRow (w.heap.size + 2) 61 2 (.slice a n p) cs.length (rowOf .u64 cs) ∧ Below w1.heap.size w1 w') := fun b w1 hb1 hc1 =>
    (cat40_1 b vc cs w1 hc1 (hc.keep (below_tr hb hb1)) lc).mono (by rintro e w' ⟨v, rfl, ho, hB⟩; obtain ⟨a, n, p, rfl⟩ := own_shape ho; exact ⟨a, n, p, rfl, own_base ho (by have := hb1.size; omega), hB⟩)
  obtain ⟨am, nm, pm, rfl⟩ : ∃ a n p, vm = .slice a n p := by obtain ⟨a, p, h, _⟩ := hm; exact ⟨_, _, _, h⟩
  obtain ⟨ac, nc, pc, rfl⟩ : ∃ a n p, vc = .slice a n p := by obtain ⟨a, p, h, _⟩ := hc; exact ⟨_, _, _, h⟩
  clear hm hc
  go_enter Try.func65, Try.ntmps65
  go_wp2
  go_region_held3 (fun w' => Below w.heap.size w w' ∧ w'.cell? ⟨w.heap.size, 0, none⟩ = some (.slice am nm pm) ∧ w'.cell? ⟨w.heap.size, 1, none⟩ = some (.slice ac nc pc) ∧ w'.cell? ⟨w.heap.size + 1, 0, none⟩ = some (cellAt w' ⟨w.heap.size + 1, 0, none⟩) ∧ w'.cell? ⟨w.heap.size + 1, 1, none⟩ = some (cellAt w' ⟨w.heap.size + 1, 1, none⟩) ∧ w'.frozen? ⟨w.heap.size + 1, 0, none⟩ = false ∧ w'.frozen? ⟨w.heap.size + 1, 1, none⟩ = false)
    (refine ⟨?_, ?_, ?_, ?_, ?_, ?_, ?_⟩ <;> first | (with_reducible refine Free.cell ?_; (repeat (first | with_reducible assumption | with_reducible refine Free.drew ?_ | with_reducible refine Free.alloc ?_ _ | with_reducible refine Free.set ?_ _ _ | with_reducible refine Free.keep (by with_reducible assumption) ?_)); done) | (with_reducible refine Free.frozen ?_; (repeat (first | with_reducible assumption | with_reducible refine Free.drew ?_ | with_reducible refine Free.alloc ?_ _ | with_reducible refine Free.set ?_ _ _ | with_reducible refine Free.keep (by with_reducible assumption) ?_)); done) | ((repeat (first | with_reducible assumption | with_reducible exact Below.refl _ _ | with_reducible refine Below.drew ?_ | with_reducible refine below_alloc ?_ _ | (with_reducible refine below_set ?_ ?_ _; rotate_left; focus (simp; done)) | with_reducible refine below_tr ?_ (by with_reducible assumption))); done) | ((repeat (first | with_reducible assumption | with_reducible refine cell_drew ?_ | (with_reducible refine cell_newA _ _ _ _ _ _ ?_ rfl; (simp [*]; done)) | with_reducible refine cell_old ?_ _ | (with_reducible refine cell_far ?_ ?_ _; rotate_left; focus (simp; done)) | with_reducible refine keep_cell (by with_reducible assumption) ?_)); done))
    (first | (go_at_call 76; refine (K39.out _ _ (by (repeat (first | with_reducible assumption | with_reducible exact Below.refl _ _ | with_reducible refine Below.drew ?_ | with_reducible refine below_alloc ?_ _ | (with_reducible refine below_set ?_ ?_ _; rotate_left; focus (simp; done)) | with_reducible refine below_tr ?_ (by with_reducible assumption)))) (by (repeat (first | with_reducible assumption | with_reducible refine cell_drew ?_ | (with_reducible refine cell_newA _ _ _ _ _ _ ?_ rfl; (simp [*]; done)) | with_reducible refine cell_old ?_ _ | (with_reducible refine cell_far ?_ ?_ _; rotate_left; focus (simp; done)) | with_reducible refine keep_cell (by with_reducible assumption) ?_)))).mono ?_; rintro e w' ⟨a1, n1, p1, rfl, ho1, hB1⟩) | (go_at_call 77; refine (K40.out _ _ (by (repeat (first | with_reducible assumption | with_reducible exact Below.refl _ _ | with_reducible refine Below.drew ?_ | with_reducible refine below_alloc ?_ _ | (with_reducible refine below_set ?_ ?_ _; rotate_left; focus (simp; done)) | with_reducible refine below_tr ?_ (by with_reducible assumption)))) (by (repeat (first | with_reducible assumption | with_reducible refine cell_drew ?_ | (with_reducible refine cell_newA _ _ _ _ _ _ ?_ rfl; (simp [*]; done)) | with_reducible refine cell_old ?_ _ | (with_reducible refine cell_far ?_ ?_ _; rotate_left; focus (simp; done)) | with_reducible refine keep_cell (by with_reducible assumption) ?_)))).mono ?_; rintro e w' ⟨a2, n2, p2, rfl, ho2, hB2⟩))
  all_goals (go_wp2; (try simp only [Exit.inBlock, Exit.then]))
  all_goals have r := res2 w' (w.heap.size + 1) (.slice a1 n1 p1) (.slice a2 n2 p2) (by (repeat (first | with_reducible assumption | with_reducible refine Free.drew ?_ | with_reducible refine Free.alloc ?_ _ | with_reducible refine Free.set ?_ _ _ | with_reducible refine Free.keep (by with_reducible assumption) ?_))) (by (repeat (first | with_reducible assumption | with_reducible refine Free.drew ?_ | with_reducible refine Free.alloc ?_ _ | with_reducible refine Free.set ?_ _ _ | with_reducible refine Free.keep (by with_reducible assumption) ?_)))
  all_goals obtain ⟨r0, r1⟩ := r
  all_goals refine bodyPost_ret (v := .agg #[.slice a1 n1 p1, .slice a2 n2 p2]) ?_ rfl ⟨_, _, rfl, own_base (base := w.heap.size + 2) (by (repeat (first | with_reducible assumption | (with_reducible refine ownsRow_setCell_below ?_ ?_ _; rotate_left; focus (simp; done)) | with_reducible refine own_keep ?_ (by with_reducible assumption) | with_reducible refine own_alloc ?_ _ | with_reducible refine own_drew ?_))) (by omega), own_base (base := w.heap.size + 2) (by (repeat (first | with_reducible assumption | (with_reducible refine ownsRow_setCell_below ?_ ?_ _; rotate_left; focus (simp; done)) | with_reducible refine own_keep ?_ (by with_reducible assumption) | with_reducible refine own_alloc ?_ _ | with_reducible refine own_drew ?_))) (by omega), (by (repeat (first | with_reducible assumption | with_reducible exact Below.refl _ _ | with_reducible refine Below.drew ?_ | with_reducible refine below_alloc ?_ _ | (with_reducible refine below_set ?_ ?_ _; rotate_left; focus (simp; done)) | with_reducible refine below_tr ?_ (by with_reducible assumption))))⟩
  all_goals (rw [results_cell1 rfl]; simp [go_sem, r0, r1])
end Go.Proofs.Ytpaanfeleeomnaa
namespace Go.Proofs.Ytpaanfeleeomnaa
open Go.RowKit
set_option maxRecDepth 100000
set_option linter.unusedVariables false
/-- A memory whose rows lie in blocks from B on. -/
def OwnH (B : Nat) (w : World) (vm vc : Value) (ms cs : List (Nat × Int)) : Prop := w.ownsRow B 56 2 vm ms.length (rowOf .i64 ms) ∧ w.ownsRow B 61 2 vc cs.length (rowOf .u64 cs)
theorem OwnH.m {B : Nat} {w : World} {vm vc : Value} {ms cs : List (Nat × Int)} (h : OwnH B w vm vc ms cs) : Sl .i64 w vm ms := own_sl h.1
theorem OwnH.c {B : Nat} {w : World} {vm vc : Value} {ms cs : List (Nat × Int)} (h : OwnH B w vm vc ms cs) : Sl .u64 w vc cs := own_sl h.2
theorem OwnH.shape {B : Nat} {w : World} {vm vc : Value} {ms cs : List (Nat × Int)} (h : OwnH B w vm vc ms cs) : ∃ a n p a' n' p', vm = .slice a n p ∧ vc = .slice a' n' p' := by
  obtain ⟨a, n, p, rfl⟩ := own_shape h.1
  obtain ⟨a', n', p', rfl⟩ := own_shape h.2
  exact ⟨_, _, _, _, _, _, rfl, rfl⟩
theorem OwnH.keep {B : Nat} {w w' : World} {vm vc : Value} {ms cs : List (Nat × Int)} (h : OwnH B w vm vc ms cs) (hb : Below w.heap.size w w') : OwnH B w' vm vc ms cs := ⟨own_keep h.1 hb, own_keep h.2 hb⟩
theorem OwnH.base {B B' : Nat} {w : World} {vm vc : Value} {ms cs : List (Nat × Int)} (h : OwnH B w vm vc ms cs) (hb : B' ≤ B) : OwnH B' w vm vc ms cs := ⟨own_base h.1 hb, own_base h.2 hb⟩
theorem OwnH.set {B : Nat} {w : World} {vm vc : Value} {ms cs : List (Nat × Int)} (h : OwnH B w vm vc ms cs) {a : Addr} (ha : a.block < B) (u : Value) : OwnH B (w.setCell a u) vm vc ms cs :=
  ⟨ownsRow_setCell_below h.1 ha u, ownsRow_setCell_below h.2 ha u⟩
theorem OwnH.alloc {B : Nat} {w : World} {vm vc : Value} {ms cs : List (Nat × Int)} (h : OwnH B w vm vc ms cs) (o : Obj) : OwnH B (w.alloc o) vm vc ms cs := h.keep ((Below.refl _ _).alloc (Nat.le_refl _) _)
theorem OwnH.drew {B : Nat} {w : World} {vm vc : Value} {ms cs : List (Nat × Int)} (h : OwnH B w vm vc ms cs) : OwnH B w.drew vm vc ms cs := h.keep (Below.refl _ _).drew
theorem res2_own {w : World} {n B : Nat} {x y v : Value} {m : Nat} {xs : List Value} {base e : Nat} (h : w.ownsRow base e 2 v m xs) (hn : n < base) (hB : B ≤ base) : ((w.setCell ⟨n, 0, none⟩ x).setCell ⟨n, 1, none⟩ y).ownsRow B e 2 v m xs :=
  own_base (ownsRow_setCell_below (ownsRow_setCell_below h (by simpa using hn) _) (by simpa using hn) _) hB
theorem res4_own {w : World} {n m B : Nat} {x y u t v : Value} {j : Nat} {xs : List Value} {base e : Nat} (h : w.ownsRow base e 2 v j xs) (hn : n < base) (hm : m < base) (hB : B ≤ base) :
    ((((w.setCell ⟨n, 0, none⟩ x).setCell ⟨n, 1, none⟩ y).setCell ⟨m, 0, none⟩ u).setCell ⟨m, 1, none⟩ t).ownsRow B e 2 v j xs :=
  res2_own (res2_own h hn (Nat.le_refl _)) hm hB
end Go.Proofs.Ytpaanfeleeomnaa
namespace Go.Proofs.Ytpaanfeleeomnaa
open Go.RowKit
set_option maxRecDepth 100000
set_option linter.unusedVariables false
theorem parts_take (xs : List (Nat × Int)) (h : Srt xs) (a b : Nat) (hab : a ≤ b) : xs.take (lo xs a).length = lo xs a := by
  have e := congrArg (List.take (lo xs a).length) (parts xs h a b hab)
  rw [List.append_assoc, List.take_left] at e
  exact e
theorem parts_drop (xs : List (Nat × Int)) (h : Srt xs) (a b : Nat) (hab : a ≤ b) : xs.drop ((lo xs a).length + (mid xs a b).length) = hi xs b := by
  have e := congrArg (List.drop ((lo xs a).length + (mid xs a b).length)) (parts xs h a b hab)
  rw [← List.length_append, List.drop_left] at e
  rw [← List.length_append]
  exact e
theorem parts_len (xs : List (Nat × Int)) (h : Srt xs) (a b : Nat) (hab : a ≤ b) : xs.length = (lo xs a).length + (mid xs a b).length + (hi xs b).length := by
  have e := congrArg List.length (parts xs h a b hab)
  rw [List.length_append, List.length_append] at e
  exact e
end Go.Proofs.Ytpaanfeleeomnaa
namespace Go.Proofs.Ytpaanfeleeomnaa
open Go.RowKit
set_option maxRecDepth 100000
set_option linter.unusedVariables false
theorem results_cells {fn : Func} {p q : Tmp} {ty t2 : TypeId} (h : fn.results = #[.cell p ty, .cell q t2]) (tmps : Array Value) (P : Program) (w : World) :
    (results fn tmps).run P w = ((asAddr (tmps.getD p undef)).run P w).andThen fun a w₁ => ((loadVar ty a).run P w₁).andThen fun v w₂ => ((asAddr (tmps.getD q undef)).run P w₂).andThen fun b w₃ => ((loadVar t2 b).run P w₃).andThen fun u w₄ => .ok (.tuple #[v, u]) w₄ := by
  simp only [results, h]
  simp [Sem.run_bind, Result.andThen]
theorem box2c (w : World) (x0 x1 y0 y1 z0 z1 : Value) (t s r : Nat) : ∃ W, ((w.alloc (.cells #[x0, x1] t)).alloc (.cells #[y0, y1] s)).alloc (.cells #[z0, z1] r) = W ∧ Below w.heap.size w W ∧ W.heap.size = w.heap.size + 3 ∧
    W.cell? ⟨w.heap.size, 0, none⟩ = some x0 ∧ W.cell? ⟨w.heap.size, 1, none⟩ = some x1 ∧ Free W ⟨w.heap.size + 1, 0, none⟩ ∧ Free W ⟨w.heap.size + 1, 1, none⟩ ∧ Free W ⟨w.heap.size + 1 + 1, 0, none⟩ ∧ Free W ⟨w.heap.size + 1 + 1, 1, none⟩ := by
  obtain ⟨W, rfl, b1, s1, c0, c1, _, _, f0, f1⟩ := box2b w x0 x1 y0 y1 t s
  obtain ⟨W', rfl, b2, s2, d0, d1, g0, g1⟩ := box2 ((w.alloc (.cells #[x0, x1] t)).alloc (.cells #[y0, y1] s)) z0 z1 r
  rw [s1] at d0 d1 g0 g1 s2
  exact ⟨_, rfl, below_tr b1 b2, s2, keep_cell b2 c0, keep_cell b2 c1, f0.keep b2, f1.keep b2, ⟨⟨_, d0⟩, g0⟩, ⟨⟨_, d1⟩, g1⟩⟩
theorem res4 (w : World) (n m : Nat) (x y u v : Value) (hnm : n ≠ m) (h0 : Free w ⟨n, 0, none⟩) (h1 : Free w ⟨n, 1, none⟩) (h2 : Free w ⟨m, 0, none⟩) (h3 : Free w ⟨m, 1, none⟩) :
    ((((w.setCell ⟨n, 0, none⟩ x).setCell ⟨n, 1, none⟩ y).setCell ⟨m, 0, none⟩ u).setCell ⟨m, 1, none⟩ v).cell? ⟨n, 0, none⟩ = some x ∧
    ((((w.setCell ⟨n, 0, none⟩ x).setCell ⟨n, 1, none⟩ y).setCell ⟨m, 0, none⟩ u).setCell ⟨m, 1, none⟩ v).cell? ⟨n, 1, none⟩ = some y ∧
    ((((w.setCell ⟨n, 0, none⟩ x).setCell ⟨n, 1, none⟩ y).setCell ⟨m, 0, none⟩ u).setCell ⟨m, 1, none⟩ v).cell? ⟨m, 0, none⟩ = some u ∧
    ((((w.setCell ⟨n, 0, none⟩ x).setCell ⟨n, 1, none⟩ y).setCell ⟨m, 0, none⟩ u).setCell ⟨m, 1, none⟩ v).cell? ⟨m, 1, none⟩ = some v := by
  obtain ⟨a0, a1⟩ := res2 w n x y h0 h1
  obtain ⟨a2, a3⟩ := res2 ((w.setCell ⟨n, 0, none⟩ x).setCell ⟨n, 1, none⟩ y) m u v ((h2.set _ _).set _ _) ((h3.set _ _).set _ _)
  exact ⟨cell_far (cell_far a0 (by simp; omega) _) (by simp; omega) _, cell_far (cell_far a1 (by simp; omega) _) (by simp; omega) _, a2, a3⟩
theorem res4_sl {k : IntKind} {w : World} {n m : Nat} {x y u t v : Value} {xs : List (Nat × Int)} {base e : Nat} (h : w.ownsRow base e 2 v xs.length (rowOf k xs)) (hn : n < base) (hm : m < base) :
    Sl k ((((w.setCell ⟨n, 0, none⟩ x).setCell ⟨n, 1, none⟩ y).setCell ⟨m, 0, none⟩ u).setCell ⟨m, 1, none⟩ t) v xs :=
  own_sl (ownsRow_setCell_below (ownsRow_setCell_below (ownsRow_setCell_below (ownsRow_setCell_below h (by simpa using hn) _) (by simpa using hn) _) (by simpa using hm) _) (by simpa using hm) _)
/-- The cells that a number of bytes lies in, with the number put in. -/
def putCells (cs : List (Nat × Int)) (a last v : Nat) : List (Nat × Int) :=
  cellIf (cellOf a) (nowN (wordN cs (cellOf a)) (maskOf (max a (cellOf a) - cellOf a) (min last (cellOf a + 7) - cellOf a)) (v * 2 ^ (8 * (a - cellOf a)) % 18446744073709551616)) ++
  (if cellOf last = cellOf a then [] else cellIf (cellOf last) (nowN (wordN cs (cellOf last)) (maskOf (max a (cellOf last) - cellOf last) (min last (cellOf last + 7) - cellOf last)) (v / 2 ^ (8 * (cellOf last - a)))))
def storeN (cs : List (Nat × Int)) (a k v : Nat) : List (Nat × Int) := lo cs (cellOf a) ++ putCells cs a (a + k - 1) v ++ hi cs (cellOf (a + k - 1))
theorem shl64 (v s : Nat) (hs : s ≤ 64) : IntKind.u64.wrap ((v : Int) * 2 ^ min s 64) = ((v * 2 ^ s % 18446744073709551616 : Nat) : Int) := by
  rw [Nat.min_eq_left hs, IntKind.wrap_u64, Int.natCast_emod, Int.natCast_mul, Int.natCast_pow]; rfl
theorem shr64 (v s : Nat) (hs : s ≤ 64) : (v : Int) / 2 ^ min s 64 = ((v / 2 ^ s : Nat) : Int) := by
  rw [Nat.min_eq_left hs, Int.natCast_ediv, Int.natCast_pow]; rfl
theorem cellIf_len (a b : Nat) : (cellIf a b).length ≤ 1 := by unfold cellIf; split <;> simp
end Go.Proofs.Ytpaanfeleeomnaa
