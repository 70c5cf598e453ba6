/- What is proved here: Map. -/
import Derived.Test.YtkpmkgkfpikpfaaGreatCopied
import Derived.Test.YtkpmkgkfpikpfaaGreatSmall
import Derived.Test.YtkpmkgkfpikpfaaGreatSpan
import Derived.Test.YtkpmkgkfpikpfaaGreatHeld
namespace Go.Proofs.YtkpmkgkfpikpfaaGreat
open Go.RowKit
set_option maxRecDepth 100000
set_option linter.unusedVariables false
set_option maxHeartbeats 4000000 in
theorem map14_there (vm vc : Value) (ms cs : List (Nat × Int)) (page n : Nat) (prot : Int) (w : World) (hm : Sl .i64 w vm ms) (hc : Sl .u64 w vc cs) (lm : ms.length ≤ 1073741824) (lc : cs.length ≤ 1073741824) (sm : Srt ms) (hp : pagesOk page n = true) (hq : protOk prot = true) (hmid : (mid ms page (page + n - 1)).length ≠ 0) :
  Calls Tryz.prog 100 #[.agg #[vm, vc], .int .u64 (page : Int), .int .u64 (n : Int), .int .i64 prot] w fun e w' => ∃ vm' vc', e = .returned (.tuple #[.agg #[vm', vc'], .int .i64 17]) ∧ OwnH w.heap.size w' vm' vc' (ms) (cs) ∧ Below w.heap.size w w' := by
 obtain ⟨W, hW, hb, hsz, c0, c1, _, _, g0, g1⟩ := box2b w vm vc (.slice none 0 0) (.slice none 0 0) 25 25
 have K37 : Hid (∀ w1, Below W.heap.size W w1 → Calls Tryz.prog 76 #[.agg #[vm, vc]] w1 fun e w' => ∃ b1 k1 q1 b2 k2 q2, e = .returned (.agg #[.slice b1 k1 q1, .slice b2 k2 q2]) ∧ w'.ownsRow (w.heap.size + 2) 77 2 (.slice b1 k1 q1) ms.length (rowOf .i64 ms) ∧ w'.ownsRow (w.heap.size + 2) 82 2 (.slice b2 k2 q2) cs.length (rowOf .u64 cs) ∧ Below w1.heap.size w1 w') := fun w1 hb1 =>
  (copied37 vm vc ms cs w1 (hm.keep (below_tr hb hb1)) (hc.keep (below_tr hb hb1)) lm lc).mono (by
   rintro e w' ⟨v1, v2, rfl, ho, ho2, hB⟩
   obtain ⟨b1, k1, q1, rfl⟩ := own_shape ho
   obtain ⟨b2, k2, q2, rfl⟩ := own_shape ho2
   have := hb1.size
   exact ⟨b1, k1, q1, b2, k2, q2, rfl, own_base ho (by omega), own_base ho2 (by omega), hB⟩)
 have hpp : n ≠ 0 ∧ page + n ≤ 1125899906842624 := by simpa [pagesOk] using hp
 obtain ⟨last, hl⟩ : ∃ last, last = page + n - 1 := ⟨_, rfl⟩
 have KP := arePages36 page n (by omega) (by omega) W
 rw [hp] at KP
 have KQ := isProt31 prot W
 rw [hq] at KQ
 have K38 := span38s vm ms page last W (hm.keep hb) sm lm (by omega)
 have x1 : IntKind.u64.wrap (IntKind.u64.wrap ((page : Int) + (n : Int)) - 1) = (last : Int) := by rw [IntKind.wrap_u64, IntKind.wrap_u64]; omega
 obtain ⟨am, nm, pm, rfl⟩ : ∃ a n p, vm = .slice a n p := by obtain ⟨a, p, h, _⟩ := hm; exact ⟨_, _, _, h⟩
 obtain ⟨ac, nc, pc, rfl⟩ : ∃ a n p, vc = .slice a n p := by obtain ⟨a, p, h, _⟩ := hc; exact ⟨_, _, _, h⟩
 rw [← hl] at hmid
 have hl1 : (lo ms page).length ≤ 1073741824 := Nat.le_trans (List.length_filter_le _ _) lm
 have hl2 : (mid ms page last).length ≤ 1073741824 := Nat.le_trans (List.length_filter_le _ _) lm
 generalize (lo ms page).length = f at K38 hl1
 generalize (mid ms page last).length = t at K38 hmid hl2
 obtain ⟨ft, hft⟩ : ∃ ft, ft = f + t := ⟨_, rfl⟩
 rw [← hft] at K38
 have hne : ((f : Int) != (ft : Int)) = true := by simp; omega
 clear hm hc hp hq hpp hl hmid hft
 go_enter Tryz.func100, Tryz.ntmps100
 go_wp2_with fail
 refine KP.mono ?_
 rintro e w0 ⟨rfl, h0⟩
 subst h0
 clear KP
 go_wp2_with fail
 refine KQ.mono ?_
 rintro e w0 ⟨rfl, h0⟩
 subst h0
 clear KQ
 go_wp2_with fail
 refine K38.mono ?_
 rintro e w1 ⟨rfl, hb1⟩
 clear K38
 have e0 := keep_cell hb1 c0
 have e1 := keep_cell hb1 c1
 go_wp2_with fail
 refine (K37.out _ (by (repeat (first | with_reducible assumption | with_reducible exact Below.refl _ _ | with_reducible refine Below.drew ?_ | with_reducible refine below_alloc ?_ _ | (with_reducible refine below_set ?_ ?_ _; rotate_left; focus (first | (simp; done) | (simp; omega))) | with_reducible refine below_tr ?_ (by with_reducible assumption))))).mono ?_
 rintro e w9 ⟨b1, k1, q1, b2, k2, q2, rfl, ho, ho2, hb9⟩
 have G0 : Free w9 ⟨w.heap.size + 1, 0, none⟩ := (by (repeat (first | with_reducible assumption | with_reducible refine Free.drew ?_ | with_reducible refine Free.alloc ?_ _ | with_reducible refine Free.set ?_ _ _ | with_reducible refine Free.keep (by with_reducible assumption) ?_)))
 have G1 : Free w9 ⟨w.heap.size + 1, 1, none⟩ := (by (repeat (first | with_reducible assumption | with_reducible refine Free.drew ?_ | with_reducible refine Free.alloc ?_ _ | with_reducible refine Free.set ?_ _ _ | with_reducible refine Free.keep (by with_reducible assumption) ?_)))
 have q0 := G0.cell
 have q1' := G1.cell
 have q2' := G0.frozen
 have q3 := G1.frozen
 have SM : Hid (World.ownsRow ((w9.setCell ⟨w.heap.size + 1, 0, none⟩ (.slice b1 k1 q1)).setCell ⟨w.heap.size + 1, 1, none⟩ (.slice b2 k2 q2)) w.heap.size 77 2 (.slice b1 k1 q1) ms.length (rowOf .i64 ms)) := res2_own ho (by omega) (by omega)
 have SC : Hid (World.ownsRow ((w9.setCell ⟨w.heap.size + 1, 0, none⟩ (.slice b1 k1 q1)).setCell ⟨w.heap.size + 1, 1, none⟩ (.slice b2 k2 q2)) w.heap.size 82 2 (.slice b2 k2 q2) cs.length (rowOf .u64 cs)) := res2_own ho2 (by omega) (by omega)
 clear ho ho2
 go_wp2
 (try simp only [Exit.inBlock, Exit.then])
 obtain ⟨r0, r1⟩ := res2 w9 (w.heap.size + 1) (.slice b1 k1 q1) (.slice b2 k2 q2) G0 G1
 refine bodyPost_ret (v := .tuple #[.agg #[.slice b1 k1 q1, .slice b2 k2 q2], .int .i64 17]) ?_ rfl ⟨_, _, rfl, ⟨SM.out, SC.out⟩, (by (repeat (first | with_reducible assumption | with_reducible exact Below.refl _ _ | with_reducible refine Below.drew ?_ | with_reducible refine below_alloc ?_ _ | (with_reducible refine below_set ?_ ?_ _; rotate_left; focus (first | (simp; done) | (simp; omega))) | with_reducible refine below_tr ?_ (by with_reducible assumption))))⟩
 rw [results_cell_tmp rfl]; simp [go_sem, r0, r1]
set_option maxHeartbeats 4000000 in
theorem map14_full (vm vc : Value) (ms cs : List (Nat × Int)) (page n : Nat) (prot : Int) (w : World) (hm : Sl .i64 w vm ms) (hc : Sl .u64 w vc cs) (lm : ms.length ≤ 1073741824) (lc : cs.length ≤ 1073741824) (sm : Srt ms) (hp : pagesOk page n = true) (hq : protOk prot = true) (hmid : (mid ms page (page + n - 1)).length = 0) (hfull : 64 < ms.length + n) :
  Calls Tryz.prog 100 #[.agg #[vm, vc], .int .u64 (page : Int), .int .u64 (n : Int), .int .i64 prot] w fun e w' => ∃ vm' vc', e = .returned (.tuple #[.agg #[vm', vc'], .int .i64 105]) ∧ OwnH w.heap.size w' vm' vc' (ms) (cs) ∧ Below w.heap.size w w' := by
 obtain ⟨W, hW, hb, hsz, c0, c1, _, _, g0, g1⟩ := box2b w vm vc (.slice none 0 0) (.slice none 0 0) 25 25
 have K37 : Hid (∀ w1, Below W.heap.size W w1 → Calls Tryz.prog 76 #[.agg #[vm, vc]] w1 fun e w' => ∃ b1 k1 q1 b2 k2 q2, e = .returned (.agg #[.slice b1 k1 q1, .slice b2 k2 q2]) ∧ w'.ownsRow (w.heap.size + 2) 77 2 (.slice b1 k1 q1) ms.length (rowOf .i64 ms) ∧ w'.ownsRow (w.heap.size + 2) 82 2 (.slice b2 k2 q2) cs.length (rowOf .u64 cs) ∧ Below w1.heap.size w1 w') := fun w1 hb1 =>
  (copied37 vm vc ms cs w1 (hm.keep (below_tr hb hb1)) (hc.keep (below_tr hb hb1)) lm lc).mono (by
   rintro e w' ⟨v1, v2, rfl, ho, ho2, hB⟩
   obtain ⟨b1, k1, q1, rfl⟩ := own_shape ho
   obtain ⟨b2, k2, q2, rfl⟩ := own_shape ho2
   have := hb1.size
   exact ⟨b1, k1, q1, b2, k2, q2, rfl, own_base ho (by omega), own_base ho2 (by omega), hB⟩)
 have hpp : n ≠ 0 ∧ page + n ≤ 1125899906842624 := by simpa [pagesOk] using hp
 obtain ⟨last, hl⟩ : ∃ last, last = page + n - 1 := ⟨_, rfl⟩
 have KP := arePages36 page n (by omega) (by omega) W
 rw [hp] at KP
 have KQ := isProt31 prot W
 rw [hq] at KQ
 have K38 := span38s vm ms page last W (hm.keep hb) sm lm (by omega)
 have x1 : IntKind.u64.wrap (IntKind.u64.wrap ((page : Int) + (n : Int)) - 1) = (last : Int) := by rw [IntKind.wrap_u64, IntKind.wrap_u64]; omega
 obtain ⟨am, pm, rfl⟩ : ∃ a p, vm = .slice a ms.length p := by obtain ⟨a, p, h, _⟩ := hm; exact ⟨_, _, h⟩
 obtain ⟨ac, nc, pc, rfl⟩ : ∃ a n p, vc = .slice a n p := by obtain ⟨a, p, h, _⟩ := hc; exact ⟨_, _, _, h⟩
 rw [← hl] at hmid
 rw [hmid, Nat.add_zero] at K38
 generalize (lo ms page).length = f at K38
 have hlen : 64 < IntKind.u64.wrap ((ms.length : Int) + (n : Int)) := by rw [IntKind.wrap_u64]; omega
 obtain ⟨sm', hsm⟩ : ∃ x, x = IntKind.u64.wrap ((ms.length : Int) + (n : Int)) := ⟨_, rfl⟩
 clear hm hc hp hq hpp hl hmid hfull
 have hsm' := hsm.symm
 rw [hsm'] at hlen
 clear hsm
 go_enter Tryz.func100, Tryz.ntmps100
 go_wp2_with fail
 refine KP.mono ?_
 rintro e w0 ⟨rfl, h0⟩
 subst h0
 clear KP
 go_wp2_with fail
 refine KQ.mono ?_
 rintro e w0 ⟨rfl, h0⟩
 subst h0
 clear KQ
 go_wp2_with fail
 refine K38.mono ?_
 rintro e w1 ⟨rfl, hb1⟩
 clear K38
 have e0 := keep_cell hb1 c0
 have e1 := keep_cell hb1 c1
 go_wp2_with fail
 refine (K37.out _ (by (repeat (first | with_reducible assumption | with_reducible exact Below.refl _ _ | with_reducible refine Below.drew ?_ | with_reducible refine below_alloc ?_ _ | (with_reducible refine below_set ?_ ?_ _; rotate_left; focus (first | (simp; done) | (simp; omega))) | with_reducible refine below_tr ?_ (by with_reducible assumption))))).mono ?_
 rintro e w9 ⟨b1, k1, q1, b2, k2, q2, rfl, ho, ho2, hb9⟩
 have G0 : Free w9 ⟨w.heap.size + 1, 0, none⟩ := (by (repeat (first | with_reducible assumption | with_reducible refine Free.drew ?_ | with_reducible refine Free.alloc ?_ _ | with_reducible refine Free.set ?_ _ _ | with_reducible refine Free.keep (by with_reducible assumption) ?_)))
 have G1 : Free w9 ⟨w.heap.size + 1, 1, none⟩ := (by (repeat (first | with_reducible assumption | with_reducible refine Free.drew ?_ | with_reducible refine Free.alloc ?_ _ | with_reducible refine Free.set ?_ _ _ | with_reducible refine Free.keep (by with_reducible assumption) ?_)))
 have q0 := G0.cell
 have q1' := G1.cell
 have q2' := G0.frozen
 have q3 := G1.frozen
 have SM : Hid (World.ownsRow ((w9.setCell ⟨w.heap.size + 1, 0, none⟩ (.slice b1 k1 q1)).setCell ⟨w.heap.size + 1, 1, none⟩ (.slice b2 k2 q2)) w.heap.size 77 2 (.slice b1 k1 q1) ms.length (rowOf .i64 ms)) := res2_own ho (by omega) (by omega)
 have SC : Hid (World.ownsRow ((w9.setCell ⟨w.heap.size + 1, 0, none⟩ (.slice b1 k1 q1)).setCell ⟨w.heap.size + 1, 1, none⟩ (.slice b2 k2 q2)) w.heap.size 82 2 (.slice b2 k2 q2) cs.length (rowOf .u64 cs)) := res2_own ho2 (by omega) (by omega)
 clear ho ho2
 go_wp2
 (try simp only [Exit.inBlock, Exit.then])
 obtain ⟨r0, r1⟩ := res2 w9 (w.heap.size + 1) (.slice b1 k1 q1) (.slice b2 k2 q2) G0 G1
 refine bodyPost_ret (v := .tuple #[.agg #[.slice b1 k1 q1, .slice b2 k2 q2], .int .i64 105]) ?_ rfl ⟨_, _, rfl, ⟨SM.out, SC.out⟩, (by (repeat (first | with_reducible assumption | with_reducible exact Below.refl _ _ | with_reducible refine Below.drew ?_ | with_reducible refine below_alloc ?_ _ | (with_reducible refine below_set ?_ ?_ _; rotate_left; focus (first | (simp; done) | (simp; omega))) | with_reducible refine below_tr ?_ (by with_reducible assumption))))⟩
 rw [results_cell_tmp rfl]; simp [go_sem, r0, r1]
end Go.Proofs.YtkpmkgkfpikpfaaGreat
