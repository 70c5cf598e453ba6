/- What is proved here: Map, where there is room. -/
import Derived.Test.YtkpmkgkfpikpfaaGreatMap
import Derived.Test.YtkpmkgkfpikpfaaGreatSl
import Derived.Laws.OwnMore
import Derived.Test.YtkpmkgkfpikpfaaGreatCopied
namespace Go.Proofs.YtkpmkgkfpikpfaaGreat
open Go.RowKit
set_option maxRecDepth 100000
set_option linter.unusedVariables false
theorem below_grown {w w1 w2 : World} (h : Below w.heap.size w w1) (hg : w1.grownBy w2 none) : Below w.heap.size w w2 := h.grown hg h.size (by simp)
set_option maxHeartbeats 4000000 in
theorem map14_ok (vm vc : Value) (ms cs : List (Nat × Int)) (page n : Nat) (prot : Int) (w : World) (hm : Sl .i64 w vm ms) (hc : Sl .u64 w vc cs) (lm : ms.length ≤ 1073741824) (lc : cs.length ≤ 1073741824) (sm : Srt ms) (hp : pagesOk page n = true) (hq : protOk prot = true) (hmid : mid ms page (page + n - 1) = []) (hroom : ms.length + n ≤ 64) :
  Calls Tryz.prog 100 #[.agg #[vm, vc], .int .u64 (page : Int), .int .u64 (n : Int), .int .i64 prot] w fun e w' => ∃ vm' vc', e = .returned (.tuple #[.agg #[vm', vc'], .int .i64 0]) ∧ OwnH w.heap.size w' vm' vc' (lo ms page ++ added page prot n ++ hi ms (page + n - 1)) (cs) ∧ Below w.heap.size w w' := by
 obtain ⟨W, hW, hb, hsz, c0, c1, _, _, g0, g1⟩ := box2b w vm vc (.slice none 0 0) (.slice none 0 0) 25 25
 have hpp : n ≠ 0 ∧ page + n ≤ 1125899906842624 := by simpa [pagesOk] using hp
 obtain ⟨last, hl⟩ : ∃ last, last = page + n - 1 := ⟨_, rfl⟩
 have KP := arePages36 page n (by omega) (by omega) W
 rw [hp] at KP
 have KQ := isProt31 prot W
 rw [hq] at KQ
 have K38 := span38s vm ms page last W (hm.keep hb) sm lm (by omega)
 have x1 : IntKind.u64.wrap (IntKind.u64.wrap ((page : Int) + (n : Int)) - 1) = (last : Int) := by rw [IntKind.wrap_u64, IntKind.wrap_u64]; omega
 rw [← hl] at hmid
 rw [← hl]
 obtain ⟨f, hf⟩ : ∃ f, f = (lo ms page).length := ⟨_, rfl⟩
 have hfl : f ≤ ms.length := by rw [hf]; exact List.length_filter_le _ _
 have z1 : ms.take f = lo ms page := by rw [hf]; exact parts_take ms sm page last (by omega)
 have z2 : ms.drop f = hi ms last := by have h := parts_drop ms sm page last (by omega); rw [hmid, List.length_nil, Nat.add_zero] at h; rw [hf]; exact h
 rw [hmid, List.length_nil, Nat.add_zero, ← hf] at K38
 rw [← z1, ← z2]
 obtain ⟨v1, t1, s1, a1, n1, p1, rfl⟩ := hm.to22 f hfl
 obtain ⟨v2, t2, s2, a2, n2, p2, rfl⟩ := hm.from22 f hfl
 have K40 : Hid (∀ b w1, Below W.heap.size W w1 → w1.cell? ⟨b, 0, none⟩ = some vc → Calls Tryz.prog 91 #[.slice (some ⟨b, 0, none⟩) 1 1] w1 fun e w' => ∃ a n p, e = .returned (.slice a n p) ∧ w'.ownsRow (w.heap.size + 2) 82 2 (.slice a n p) cs.length (rowOf .u64 cs) ∧ Below w1.heap.size w1 w') := fun b w1 hb1 hc1 =>
  (cat40_1 b vc cs w1 hc1 (hc.keep (below_tr hb hb1)) lc).mono (by rintro e w' ⟨v, rfl, ho, hB⟩; obtain ⟨a, n, p, rfl⟩ := own_shape ho; exact ⟨a, n, p, rfl, own_base ho (by have := hb1.size; omega), hB⟩)
 have lall : (ms.take f ++ added page prot n ++ ms.drop f).length ≤ 1073741824 := by simp [added]; omega
 have K39 : Hid (∀ vn b w1, Below W.heap.size W w1 → Sl .i64 w1 vn (added page prot n) → w1.cell? ⟨b, 0, none⟩ = some (.slice a1 n1 p1) → w1.cell? ⟨b, 1, none⟩ = some vn → w1.cell? ⟨b, 2, none⟩ = some (.slice a2 n2 p2) → Calls Tryz.prog 90 #[.slice (some ⟨b, 0, none⟩) 3 3] w1 fun e w' => ∃ a n' p, e = .returned (.slice a n' p) ∧ w'.ownsRow (w.heap.size + 2) 77 2 (.slice a n' p) (ms.take f ++ added page prot n ++ ms.drop f).length (rowOf .i64 (ms.take f ++ added page prot n ++ ms.drop f)) ∧ Below w1.heap.size w1 w') := fun vn b w1 hb1 hsn hc1 hc2 hc3 =>
  (cat39_3 b _ _ _ _ _ _ w1 hc1 hc2 hc3 (s1.keep (below_tr hb hb1)) hsn (s2.keep (below_tr hb hb1)) lall).mono (by rintro e w' ⟨v, rfl, ho, hB⟩; obtain ⟨a, n, p, rfl⟩ := own_shape ho; exact ⟨a, n, p, rfl, own_base ho (by have := hb1.size; omega), hB⟩)
 obtain ⟨am, nm, pm, rfl, hnm⟩ : ∃ a n p, vm = .slice a n p ∧ n = ms.length := by obtain ⟨a, p, h, _⟩ := hm; exact ⟨_, _, _, h, rfl⟩
 obtain ⟨ac, nc, pc, rfl⟩ : ∃ a n p, vc = .slice a n p := by obtain ⟨a, p, h, _⟩ := hc; exact ⟨_, _, _, h⟩
 generalize ms.take f ++ added page prot n ++ ms.drop f = zs at K39 lall ⊢
 have hnm64 : nm + n ≤ 64 := by omega
 have hn64 : n ≤ 64 := by omega
 have hpg : Hid (page + n ≤ 1125899906842624) := hpp.2
 obtain ⟨i0, hi, hz0, hz1, hz2⟩ := info_parts info54
 have HI : Hid (Tryz.prog.info? 77 = some i0 ∧ i0.zero = some (.agg #[.int .u64 0, .int .i64 0]) ∧ i0.size = 2 ∧ i0.bytes = 16) := ⟨hi, hz0, hz1, hz2⟩
 clear hm hc hp hq hpp hl hmid s1 s2 hi hz0 hz1 hz2 z1 z2 lall hfl lm hnm hroom hf
 go_enter Tryz.func100, Tryz.ntmps100
 go_wp2_with fail
 refine KP.mono ?_
 rintro e w0 ⟨rfl, h0⟩
 subst h0
 clear KP
 go_wp2_with fail
 refine KQ.mono ?_
 rintro e w0 ⟨rfl, h0⟩
 subst h0
 clear KQ
 go_wp2_with fail
 refine K38.mono ?_
 rintro e w1 ⟨rfl, hb1⟩
 clear K38
 have e0 := keep_cell hb1 c0
 have e1 := keep_cell hb1 c1
 have hsz1 : w.heap.size + 2 ≤ w1.heap.size := by have := hb1.size; omega
 go_wp2_with (at_make; refine wpList_make_full _ rfl (.tmp 50) (.tmp 50) 22 rfl (w.heap.size + 2) 77 i0 _ 2 Tryz.underlying22 HI.out.1 HI.out.2.1 HI.out.2.2.1 _ _ _ _ n rfl rfl rfl rfl (by rw [HI.out.2.2.2]; omega) (by unfold maxLen; omega) hsz1 ?_; intro w2 ho hgr)
 generalize hg : w1.heap.size = g at ho ⊢
 have hgsz : w.heap.size + 2 ≤ g := by omega
 have hb2 : Below w0.heap.size w0 w2 := below_grown hb1 hgr
 have HO : Hid (w2.ownsRow (w.heap.size + 2) 77 2 (.slice (some ⟨g, 0, none⟩) n n) n (rowOf .i64 (filled page prot n 0))) := by
  have h := ho
  rw [show (Value.agg #[.int .u64 0, .int .i64 0]).cells = #[.int .u64 0, .int .i64 0] by rfl, rowOf_made] at h
  exact h
 have hWsz : w0.heap.size = w.heap.size + 2 := by omega
 clear ho hgr hg hb1 e0 e1
 go_wp2
 go_loopw [54] (fun i wr => ∃ k : Nat, k ≤ n ∧ i = .int .i64 (k : Int) ∧ wr.ownsRow (w.heap.size + 2) 77 2 (.slice (some ⟨g, 0, none⟩) n n) n (rowOf .i64 (filled page prot n k)) ∧ Below w0.heap.size w0 wr) (fun i _ => n - (intOf i).toNat)
 case atStart => exact ⟨0, Nat.zero_le _, rfl, HO.out, hb2⟩
 case round =>
  obtain ⟨k, hk, rfl, ho, hbr⟩ := hrel
  by_cases hkn : k < n
  ·obtain ⟨pk, hpk⟩ : ∃ pk, pk = page + k := ⟨_, rfl⟩
   have x2 : IntKind.u64.wrap (k : Int) = (k : Int) := by rw [IntKind.wrap_u64]; omega
   have x3 : IntKind.u64.wrap ((page : Int) + (k : Int)) = (pk : Int) := by have := hpg.out; rw [IntKind.wrap_u64]; omega
   have hget := filled_get page prot n k k hkn
   obtain ⟨r0, r1⟩ := rowOf_even .i64 (filled page prot n k) k (by rw [filled_length]; exact hkn)
   have d0 := ho.cellAt (k * 2) (by omega)
   have d1 := ho.cellAt (k * 2 + 1) (by omega)
   rw [r0] at d0
   rw [r1] at d1
   have f0 := ho.frozenAt (k * 2)
   have f1 := ho.frozenAt (k * 2 + 1)
   have HR : Hid (((wr.setCell ⟨g, k * 2, none⟩ (.int .u64 (pk : Int))).setCell ⟨g, k * 2 + 1, none⟩ (.int .i64 prot)).ownsRow (w.heap.size + 2) 77 2 (.slice (some ⟨g, 0, none⟩) n n) n (rowOf .i64 (filled page prot n (k + 1)))) := by
    have h := ((ho.stored (k * 2) (.int .u64 (pk : Int))).1.stored (k * 2 + 1) (.int .i64 prot)).1
    rw [rowOf_set, hpk] at h
    rw [hpk]
    exact h
   have HB : Hid (Below w0.heap.size w0 ((wr.setCell ⟨g, k * 2, none⟩ (.int .u64 (pk : Int))).setCell ⟨g, k * 2 + 1, none⟩ (.int .i64 prot))) := below_set (below_set hbr (by simp; omega) _) (by simp; omega) _
   clear hget r0 r1 ho hbr hpk
   go_wp2
   go_roundw
   case rel => exact ⟨k + 1, by omega, by go_num, HR.out, HB.out⟩
   case measure => simp [intOf]; omega
  ·obtain rfl : k = n := by omega
   rw [filled_all] at ho
   have hal : (added page prot k).length = k := by simp [added]
   have HSL : Hid (Sl .i64 wr (.slice (some ⟨g, 0, none⟩) k k) (added page prot k)) := own_sl (base := w.heap.size + 2) (e := 77) (by rw [hal]; exact ho)
   have e0 := keep_cell hbr c0
   have e1 := keep_cell hbr c1
   have f0 : Free wr ⟨w.heap.size + 1, 0, none⟩ := (by (repeat (first | with_reducible assumption | with_reducible refine Free.drew ?_ | with_reducible refine Free.alloc ?_ _ | with_reducible refine Free.set ?_ _ _ | with_reducible refine Free.keep (by with_reducible assumption) ?_)))
   have f1 : Free wr ⟨w.heap.size + 1, 1, none⟩ := (by (repeat (first | with_reducible assumption | with_reducible refine Free.drew ?_ | with_reducible refine Free.alloc ?_ _ | with_reducible refine Free.set ?_ _ _ | with_reducible refine Free.keep (by with_reducible assumption) ?_)))
   have hbw : Below w.heap.size w wr := below_tr hb hbr
   have q0 := f0.cell
   have q1' := f1.cell
   have q2' := f0.frozen
   have q3 := f1.frozen
   clear ho HO
   have K39' : Hid (∀ b w1, Below wr.heap.size wr w1 → w1.cell? ⟨b, 0, none⟩ = some (.slice a1 n1 p1) → w1.cell? ⟨b, 1, none⟩ = some (.slice (some ⟨g, 0, none⟩) k k) → w1.cell? ⟨b, 2, none⟩ = some (.slice a2 n2 p2) → Calls Tryz.prog 90 #[.slice (some ⟨b, 0, none⟩) 3 3] w1 fun e w' => ∃ a n' p, e = .returned (.slice a n' p) ∧ w'.ownsRow (w.heap.size + 2) 77 2 (.slice a n' p) zs.length (rowOf .i64 zs) ∧ Below w1.heap.size w1 w') := fun b w1 hb1 => K39.out _ b w1 (below_tr hbr hb1) (HSL.out.keep hb1)
   have K40' : Hid (∀ b w1, Below wr.heap.size wr w1 → w1.cell? ⟨b, 0, none⟩ = some (.slice ac nc pc) → Calls Tryz.prog 91 #[.slice (some ⟨b, 0, none⟩) 1 1] w1 fun e w' => ∃ a n p, e = .returned (.slice a n p) ∧ w'.ownsRow (w.heap.size + 2) 82 2 (.slice a n p) cs.length (rowOf .u64 cs) ∧ Below w1.heap.size w1 w') := fun b w1 hb1 => K40.out b w1 (below_tr hbr hb1)
   clear K39 K40
   go_wp2
   go_region_held3 (fun w' => Below w.heap.size w w' ∧ w'.cell? ⟨w.heap.size, 0, none⟩ = some (.slice am nm pm) ∧ w'.cell? ⟨w.heap.size, 1, none⟩ = some (.slice ac nc pc) ∧ w'.cell? ⟨w.heap.size + 1, 0, none⟩ = some (cellAt w' ⟨w.heap.size + 1, 0, none⟩) ∧ w'.cell? ⟨w.heap.size + 1, 1, none⟩ = some (cellAt w' ⟨w.heap.size + 1, 1, none⟩) ∧ w'.frozen? ⟨w.heap.size + 1, 0, none⟩ = false ∧ w'.frozen? ⟨w.heap.size + 1, 1, none⟩ = false)
    (refine ⟨?_, ?_, ?_, ?_, ?_, ?_, ?_⟩ <;> first | (with_reducible refine Free.cell ?_; (repeat (first | with_reducible assumption | with_reducible refine Free.drew ?_ | with_reducible refine Free.alloc ?_ _ | with_reducible refine Free.set ?_ _ _ | with_reducible refine Free.keep (by with_reducible assumption) ?_)); done) | (with_reducible refine Free.frozen ?_; (repeat (first | with_reducible assumption | with_reducible refine Free.drew ?_ | with_reducible refine Free.alloc ?_ _ | with_reducible refine Free.set ?_ _ _ | with_reducible refine Free.keep (by with_reducible assumption) ?_)); done) | ((repeat (first | with_reducible assumption | with_reducible exact Below.refl _ _ | with_reducible refine Below.drew ?_ | with_reducible refine below_alloc ?_ _ | (with_reducible refine below_set ?_ ?_ _; rotate_left; focus (first | (simp; done) | (simp; omega))) | with_reducible refine below_tr ?_ (by with_reducible assumption))); done) | ((repeat (first | with_reducible assumption | with_reducible refine cell_drew ?_ | (with_reducible refine cell_newA _ _ _ _ _ _ ?_ rfl; (simp [*]; done)) | with_reducible refine cell_old ?_ _ | (with_reducible refine cell_far ?_ ?_ _; rotate_left; focus (first | (simp; done) | (simp; omega))) | with_reducible refine keep_cell (by with_reducible assumption) ?_)); done))
    (first | (go_at_call 90; refine (K39'.out _ _ (by (repeat (first | with_reducible assumption | with_reducible exact Below.refl _ _ | with_reducible refine Below.drew ?_ | with_reducible refine below_alloc ?_ _ | (with_reducible refine below_set ?_ ?_ _; rotate_left; focus (first | (simp; done) | (simp; omega))) | with_reducible refine below_tr ?_ (by with_reducible assumption)))) (by (repeat (first | with_reducible assumption | with_reducible refine cell_drew ?_ | (with_reducible refine cell_newA _ _ _ _ _ _ ?_ rfl; (simp [*]; done)) | with_reducible refine cell_old ?_ _ | (with_reducible refine cell_far ?_ ?_ _; rotate_left; focus (first | (simp; done) | (simp; omega))) | with_reducible refine keep_cell (by with_reducible assumption) ?_))) (by (repeat (first | with_reducible assumption | with_reducible refine cell_drew ?_ | (with_reducible refine cell_newA _ _ _ _ _ _ ?_ rfl; (simp [*]; done)) | with_reducible refine cell_old ?_ _ | (with_reducible refine cell_far ?_ ?_ _; rotate_left; focus (first | (simp; done) | (simp; omega))) | with_reducible refine keep_cell (by with_reducible assumption) ?_))) (by (repeat (first | with_reducible assumption | with_reducible refine cell_drew ?_ | (with_reducible refine cell_newA _ _ _ _ _ _ ?_ rfl; (simp [*]; done)) | with_reducible refine cell_old ?_ _ | (with_reducible refine cell_far ?_ ?_ _; rotate_left; focus (first | (simp; done) | (simp; omega))) | with_reducible refine keep_cell (by with_reducible assumption) ?_)))).mono ?_; rintro e w' ⟨b1, k1, q1, rfl, ho1, hB1⟩) | (go_at_call 91; refine (K40'.out _ _ (by (repeat (first | with_reducible assumption | with_reducible exact Below.refl _ _ | with_reducible refine Below.drew ?_ | with_reducible refine below_alloc ?_ _ | (with_reducible refine below_set ?_ ?_ _; rotate_left; focus (first | (simp; done) | (simp; omega))) | with_reducible refine below_tr ?_ (by with_reducible assumption)))) (by (repeat (first | with_reducible assumption | with_reducible refine cell_drew ?_ | (with_reducible refine cell_newA _ _ _ _ _ _ ?_ rfl; (simp [*]; done)) | with_reducible refine cell_old ?_ _ | (with_reducible refine cell_far ?_ ?_ _; rotate_left; focus (first | (simp; done) | (simp; omega))) | with_reducible refine keep_cell (by with_reducible assumption) ?_)))).mono ?_; rintro e w' ⟨b2, k2, q2, rfl, ho2, hB2⟩))
   all_goals (go_wp2; (try simp only [Exit.inBlock, Exit.then]))
   all_goals have r := res2 w' (w.heap.size + 1) (.slice b1 k1 q1) (.slice b2 k2 q2) (by (repeat (first | with_reducible assumption | with_reducible refine Free.drew ?_ | with_reducible refine Free.alloc ?_ _ | with_reducible refine Free.set ?_ _ _ | with_reducible refine Free.keep (by with_reducible assumption) ?_))) (by (repeat (first | with_reducible assumption | with_reducible refine Free.drew ?_ | with_reducible refine Free.alloc ?_ _ | with_reducible refine Free.set ?_ _ _ | with_reducible refine Free.keep (by with_reducible assumption) ?_)))
   all_goals obtain ⟨r0, r1⟩ := r
   all_goals refine bodyPost_ret (v := .tuple #[.agg #[.slice b1 k1 q1, .slice b2 k2 q2], .int .i64 0]) ?_ rfl ⟨_, _, rfl, ⟨own_base (base := w.heap.size + 2) (by (repeat (first | with_reducible assumption | (with_reducible refine ownsRow_setCell_below ?_ ?_ _; rotate_left; focus (first | (simp; done) | (simp; omega))) | with_reducible refine own_keep ?_ (by with_reducible assumption) | with_reducible refine own_alloc ?_ _ | with_reducible refine own_drew ?_))) (by omega), own_base (base := w.heap.size + 2) (by (repeat (first | with_reducible assumption | (with_reducible refine ownsRow_setCell_below ?_ ?_ _; rotate_left; focus (first | (simp; done) | (simp; omega))) | with_reducible refine own_keep ?_ (by with_reducible assumption) | with_reducible refine own_alloc ?_ _ | with_reducible refine own_drew ?_))) (by omega)⟩, (by (repeat (first | with_reducible assumption | with_reducible exact Below.refl _ _ | with_reducible refine Below.drew ?_ | with_reducible refine below_alloc ?_ _ | (with_reducible refine below_set ?_ ?_ _; rotate_left; focus (first | (simp; done) | (simp; omega))) | with_reducible refine below_tr ?_ (by with_reducible assumption))))⟩
   all_goals (rw [results_cell_tmp rfl]; simp [go_sem, r0, r1])
end Go.Proofs.YtkpmkgkfpikpfaaGreat
