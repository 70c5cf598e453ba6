/- What is proved here: Unmap. -/
import Derived.Test.YtkpmkgkfpikpfaaGreatWithout
import Derived.Test.YtkpmkgkfpikpfaaGreatCopied
import Derived.Test.YtkpmkgkfpikpfaaGreatSmall
import Derived.Test.YtkpmkgkfpikpfaaGreatSpan
namespace Go.Proofs.YtkpmkgkfpikpfaaGreat
open Go.RowKit
set_option maxRecDepth 100000
set_option linter.unusedVariables false
theorem without42s (v : Value) (xs : List (Nat × Int)) (first last : Nat) (w : World) (hS : Sl .i64 w v xs) (hs : Srt xs) (hn : xs.length ≤ 1073741824) (hab : first ≤ last) :
  Calls Tryz.prog 121 #[v, .func (.func 67) #[] #[], .int .u64 (first : Int), .int .u64 (last : Int)] w
   fun e w' => ∃ v', e = .returned v' ∧ w'.ownsRow w.heap.size 77 2 v' (lo xs first ++ hi xs last).length (rowOf .i64 (lo xs first ++ hi xs last)) ∧ Below w.heap.size w w' := by
 have e := parts xs hs first last hab
 rw [e] at hS hn
 exact without42 v _ _ _ first last w hS hn (fun x hx => by simpa [lo] using (List.mem_filter.1 hx).2) (fun x hx => by simpa [mid] using (List.mem_filter.1 hx).2) (fun x hx => by have := (List.mem_filter.1 hx).2; simp at this; omega)
theorem without43s (v : Value) (xs : List (Nat × Int)) (first last : Nat) (w : World) (hS : Sl .u64 w v xs) (hs : Srt xs) (hn : xs.length ≤ 1073741824) (hab : first ≤ last) :
  Calls Tryz.prog 122 #[v, .func (.func 69) #[] #[], .int .u64 (first : Int), .int .u64 (last : Int)] w
   fun e w' => ∃ v', e = .returned v' ∧ w'.ownsRow w.heap.size 82 2 v' (lo xs first ++ hi xs last).length (rowOf .u64 (lo xs first ++ hi xs last)) ∧ Below w.heap.size w w' := by
 have e := parts xs hs first last hab
 rw [e] at hS hn
 exact without43 v _ _ _ first last w hS hn (fun x hx => by simpa [lo] using (List.mem_filter.1 hx).2) (fun x hx => by simpa [mid] using (List.mem_filter.1 hx).2) (fun x hx => by have := (List.mem_filter.1 hx).2; simp at this; omega)
set_option maxHeartbeats 4000000 in
theorem unmap16_ok (vm vc : Value) (ms cs : List (Nat × Int)) (page n : Nat) (w : World) (hm : Sl .i64 w vm ms) (hc : Sl .u64 w vc cs) (sm : Srt ms) (sc : Srt cs) (lm : ms.length ≤ 1073741824) (lc : cs.length ≤ 1073741824) (hp : pagesOk page n = true) :
  Calls Tryz.prog 103 #[.agg #[vm, vc], .int .u64 (page : Int), .int .u64 (n : Int)] w fun e w' => ∃ vm' vc', e = .returned (.tuple #[.agg #[vm', vc'], .int .i64 0]) ∧ OwnH w.heap.size w' vm' vc' (lo ms page ++ hi ms (page + n - 1)) (lo cs (page * 16384) ++ hi cs ((page + n - 1) * 16384 + 16383)) ∧ Below w.heap.size w w' := by
 obtain ⟨W, hW, hb, hsz, c0, c1, _, _, g0, g1⟩ := box2b w vm vc (.slice none 0 0) (.slice none 0 0) 25 25
 have hpp : n ≠ 0 ∧ page + n ≤ 1125899906842624 := by simpa [pagesOk] using hp
 obtain ⟨last, hl⟩ : ∃ last, last = page + n - 1 := ⟨_, rfl⟩
 obtain ⟨pb, hpb⟩ : ∃ x, x = page * 16384 := ⟨_, rfl⟩
 obtain ⟨lb, hlb⟩ : ∃ x, x = last * 16384 + 16383 := ⟨_, rfl⟩
 rw [← hl, ← hpb, ← hlb]
 have KP := arePages36 page n (by omega) (by omega) W
 rw [hp] at KP
 have K42 : Hid (∀ w1, Below W.heap.size W w1 → Calls Tryz.prog 121 #[vm, .func (.func 67) #[] #[], .int .u64 (page : Int), .int .u64 (last : Int)] w1 fun e w' => ∃ a n p, e = .returned (.slice a n p) ∧ w'.ownsRow (w.heap.size + 2) 77 2 (.slice a n p) (lo ms page ++ hi ms last).length (rowOf .i64 (lo ms page ++ hi ms last)) ∧ Below w1.heap.size w1 w') := fun w1 hb1 =>
  (without42s vm ms page last w1 (hm.keep (below_tr hb hb1)) sm lm (by omega)).mono (by rintro e w' ⟨v, rfl, ho, hB⟩; obtain ⟨a, n, p, rfl⟩ := own_shape ho; exact ⟨a, n, p, rfl, own_base ho (by have := hb1.size; omega), hB⟩)
 have K43 : Hid (∀ w1, Below W.heap.size W w1 → Calls Tryz.prog 122 #[vc, .func (.func 69) #[] #[], .int .u64 (pb : Int), .int .u64 (lb : Int)] w1 fun e w' => ∃ a n p, e = .returned (.slice a n p) ∧ w'.ownsRow (w.heap.size + 2) 82 2 (.slice a n p) (lo cs pb ++ hi cs lb).length (rowOf .u64 (lo cs pb ++ hi cs lb)) ∧ Below w1.heap.size w1 w') := fun w1 hb1 =>
  (without43s vc cs pb lb w1 (hc.keep (below_tr hb hb1)) sc lc (by omega)).mono (by rintro e w' ⟨v, rfl, ho, hB⟩; obtain ⟨a, n, p, rfl⟩ := own_shape ho; exact ⟨a, n, p, rfl, own_base ho (by have := hb1.size; omega), hB⟩)
 obtain ⟨am, nm, pm, rfl⟩ : ∃ a n p, vm = .slice a n p := by obtain ⟨a, p, h, _⟩ := hm; exact ⟨_, _, _, h⟩
 obtain ⟨ac, nc, pc, rfl⟩ : ∃ a n p, vc = .slice a n p := by obtain ⟨a, p, h, _⟩ := hc; exact ⟨_, _, _, h⟩
 have x1 : IntKind.u64.wrap (IntKind.u64.wrap ((page : Int) + (n : Int)) - 1) = (last : Int) := by rw [IntKind.wrap_u64, IntKind.wrap_u64]; omega
 have x2 : IntKind.u64.wrap ((page : Int) * 16384) = (pb : Int) := by rw [IntKind.wrap_u64]; omega
 have x3 : IntKind.u64.wrap (IntKind.u64.wrap (IntKind.u64.wrap ((last : Int) * 16384) + 16384) - 1) = (lb : Int) := by rw [IntKind.wrap_u64, IntKind.wrap_u64, IntKind.wrap_u64]; omega
 generalize lo ms page ++ hi ms last = xs at K42 ⊢
 generalize lo cs pb ++ hi cs lb = ys at K43 ⊢
 clear hm hc sm sc hp hpp hl hpb hlb
 go_enter Tryz.func103, Tryz.ntmps103
 go_wp2_with fail
 refine KP.mono ?_
 rintro e w0 ⟨rfl, h0⟩
 subst h0
 clear KP
 go_wp2_with fail
 go_region_held3 (fun w' => Below w.heap.size w w' ∧ w'.cell? ⟨w.heap.size, 0, none⟩ = some (.slice am nm pm) ∧ w'.cell? ⟨w.heap.size, 1, none⟩ = some (.slice ac nc pc) ∧ w'.cell? ⟨w.heap.size + 1, 0, none⟩ = some (cellAt w' ⟨w.heap.size + 1, 0, none⟩) ∧ w'.cell? ⟨w.heap.size + 1, 1, none⟩ = some (cellAt w' ⟨w.heap.size + 1, 1, none⟩) ∧ w'.frozen? ⟨w.heap.size + 1, 0, none⟩ = false ∧ w'.frozen? ⟨w.heap.size + 1, 1, none⟩ = false)
  (refine ⟨?_, ?_, ?_, ?_, ?_, ?_, ?_⟩ <;> first | (with_reducible refine Free.cell ?_; (repeat (first | with_reducible assumption | with_reducible refine Free.drew ?_ | with_reducible refine Free.alloc ?_ _ | with_reducible refine Free.set ?_ _ _ | with_reducible refine Free.keep (by with_reducible assumption) ?_)); done) | (with_reducible refine Free.frozen ?_; (repeat (first | with_reducible assumption | with_reducible refine Free.drew ?_ | with_reducible refine Free.alloc ?_ _ | with_reducible refine Free.set ?_ _ _ | with_reducible refine Free.keep (by with_reducible assumption) ?_)); done) | ((repeat (first | with_reducible assumption | with_reducible exact Below.refl _ _ | with_reducible refine Below.drew ?_ | with_reducible refine below_alloc ?_ _ | (with_reducible refine below_set ?_ ?_ _; rotate_left; focus (first | (simp; done) | (simp; omega))) | with_reducible refine below_tr ?_ (by with_reducible assumption))); done) | ((repeat (first | with_reducible assumption | with_reducible refine cell_drew ?_ | (with_reducible refine cell_newA _ _ _ _ _ _ ?_ rfl; (simp [*]; done)) | with_reducible refine cell_old ?_ _ | (with_reducible refine cell_far ?_ ?_ _; rotate_left; focus (first | (simp; done) | (simp; omega))) | with_reducible refine keep_cell (by with_reducible assumption) ?_)); done))
  (first | (go_at_call 121; refine (K42.out _ (by (repeat (first | with_reducible assumption | with_reducible exact Below.refl _ _ | with_reducible refine Below.drew ?_ | with_reducible refine below_alloc ?_ _ | (with_reducible refine below_set ?_ ?_ _; rotate_left; focus (first | (simp; done) | (simp; omega))) | with_reducible refine below_tr ?_ (by with_reducible assumption))))).mono ?_; rintro e w' ⟨b1, k1, q1, rfl, ho1, hB1⟩) | (go_at_call 122; refine (K43.out _ (by (repeat (first | with_reducible assumption | with_reducible exact Below.refl _ _ | with_reducible refine Below.drew ?_ | with_reducible refine below_alloc ?_ _ | (with_reducible refine below_set ?_ ?_ _; rotate_left; focus (first | (simp; done) | (simp; omega))) | with_reducible refine below_tr ?_ (by with_reducible assumption))))).mono ?_; rintro e w' ⟨b2, k2, q2, rfl, ho2, hB2⟩))
 all_goals (go_wp2; (try simp only [Exit.inBlock, Exit.then]))
 all_goals have r := res2 w' (w.heap.size + 1) (.slice b1 k1 q1) (.slice b2 k2 q2) (by (repeat (first | with_reducible assumption | with_reducible refine Free.drew ?_ | with_reducible refine Free.alloc ?_ _ | with_reducible refine Free.set ?_ _ _ | with_reducible refine Free.keep (by with_reducible assumption) ?_))) (by (repeat (first | with_reducible assumption | with_reducible refine Free.drew ?_ | with_reducible refine Free.alloc ?_ _ | with_reducible refine Free.set ?_ _ _ | with_reducible refine Free.keep (by with_reducible assumption) ?_)))
 all_goals obtain ⟨r0, r1⟩ := r
 all_goals refine bodyPost_ret (v := .tuple #[.agg #[.slice b1 k1 q1, .slice b2 k2 q2], .int .i64 0]) ?_ rfl ⟨_, _, rfl, ⟨own_base (base := w.heap.size + 2) (by (repeat (first | with_reducible assumption | (with_reducible refine ownsRow_setCell_below ?_ ?_ _; rotate_left; focus (first | (simp; done) | (simp; omega))) | with_reducible refine own_keep ?_ (by with_reducible assumption) | with_reducible refine own_alloc ?_ _ | with_reducible refine own_drew ?_))) (by omega), own_base (base := w.heap.size + 2) (by (repeat (first | with_reducible assumption | (with_reducible refine ownsRow_setCell_below ?_ ?_ _; rotate_left; focus (first | (simp; done) | (simp; omega))) | with_reducible refine own_keep ?_ (by with_reducible assumption) | with_reducible refine own_alloc ?_ _ | with_reducible refine own_drew ?_))) (by omega)⟩, (by (repeat (first | with_reducible assumption | with_reducible exact Below.refl _ _ | with_reducible refine Below.drew ?_ | with_reducible refine below_alloc ?_ _ | (with_reducible refine below_set ?_ ?_ _; rotate_left; focus (first | (simp; done) | (simp; omega))) | with_reducible refine below_tr ?_ (by with_reducible assumption))))⟩
 all_goals (rw [results_cell_tmp rfl]; simp [go_sem, r0, r1])
end Go.Proofs.YtkpmkgkfpikpfaaGreat
