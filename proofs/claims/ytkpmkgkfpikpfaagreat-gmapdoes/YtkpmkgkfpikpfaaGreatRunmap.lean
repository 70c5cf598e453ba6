/- What is proved here: the document's Unmap. -/
import Derived.Test.YtkpmkgkfpikpfaaGreatHeld
import Derived.Test.YtkpmkgkfpikpfaaGreatCopied
import Derived.Test.YtkpmkgkfpikpfaaGreatSmall
import Derived.Test.YtkpmkgkfpikpfaaGreatPlain
import Derived.Test.YtkpmkgkfpikpfaaGreatGfit
import Derived.Test.YtkpmkgkfpikpfaaGreatRmap
import Derived.Laws.OwnMore
import Derived.LoopTactic
import Derived.Test.YtkpmkgkfpikpfaaGreatBackPlain
import Derived.Test.YtkpmkgkfpikpfaaGreatGf
namespace Go.Proofs.YtkpmkgkfpikpfaaGreat
open Go.RowKit
set_option maxRecDepth 100000
set_option linter.unusedVariables false
def outM (page last : Nat) (xs : List (Nat × Int)) : List (Nat × Int) := xs.filter (fun x => decide (x.1 < page ∨ last < x.1))
def outC (page last : Nat) (xs : List (Nat × Int)) : List (Nat × Int) := xs.filter (fun x => decide (x.1 / 16384 < page ∨ last < x.1 / 16384))
theorem outM_snoc (page last : Nat) (xs : List (Nat × Int)) (m : Nat) (h : m < xs.length) : outM page last (xs.take (m + 1)) = outM page last (xs.take m) ++ (if xs[m].1 < page ∨ last < xs[m].1 then [xs[m]] else []) := by
 rw [outM, List.take_add_one, List.getElem?_eq_getElem h, List.filter_append]
 by_cases c : xs[m].1 < page ∨ last < xs[m].1 <;> simp [outM, c]
theorem outC_snoc (page last : Nat) (xs : List (Nat × Int)) (m : Nat) (h : m < xs.length) : outC page last (xs.take (m + 1)) = outC page last (xs.take m) ++ (if xs[m].1 / 16384 < page ∨ last < xs[m].1 / 16384 then [xs[m]] else []) := by
 rw [outC, List.take_add_one, List.getElem?_eq_getElem h, List.filter_append]
 by_cases c : xs[m].1 / 16384 < page ∨ last < xs[m].1 / 16384 <;> simp [outC, c]
theorem outM_eq {xs : List (Nat × Int)} (h : Srt xs) {page last : Nat} (hl : page ≤ last) : outM page last xs = lo xs page ++ hi xs last := by
 have e := congrArg (outM page last) (parts xs h page last hl)
 rw [e]
 have e1 : (lo xs page).filter (fun x => decide (x.1 < page ∨ last < x.1)) = lo xs page := List.filter_eq_self.2 (fun x hx => by have := (lo_mem.1 hx).2; simp; omega)
 have e2 : (mid xs page last).filter (fun x => decide (x.1 < page ∨ last < x.1)) = [] := List.filter_eq_nil_iff.2 (fun x hx => by have := (mid_mem.1 hx).2; simp; omega)
 have e3 : (hi xs last).filter (fun x => decide (x.1 < page ∨ last < x.1)) = hi xs last := List.filter_eq_self.2 (fun x hx => by have := (hi_mem.1 hx).2; simp; omega)
 rw [outM, List.filter_append, List.filter_append, e1, e2, e3, List.append_nil]
theorem outC_eq {xs : List (Nat × Int)} (h : Srt xs) {page last : Nat} (hl : page ≤ last) : outC page last xs = lo xs (page * 16384) ++ hi xs (last * 16384 + 16383) := by
 have e := congrArg (outC page last) (parts xs h (page * 16384) (last * 16384 + 16383) (by omega))
 rw [e]
 have e1 : (lo xs (page * 16384)).filter (fun x => decide (x.1 / 16384 < page ∨ last < x.1 / 16384)) = lo xs (page * 16384) := List.filter_eq_self.2 (fun x hx => by have := (lo_mem.1 hx).2; simp; omega)
 have e2 : (mid xs (page * 16384) (last * 16384 + 16383)).filter (fun x => decide (x.1 / 16384 < page ∨ last < x.1 / 16384)) = [] := List.filter_eq_nil_iff.2 (fun x hx => by have := (mid_mem.1 hx).2; simp; omega)
 have e3 : (hi xs (last * 16384 + 16383)).filter (fun x => decide (x.1 / 16384 < page ∨ last < x.1 / 16384)) = hi xs (last * 16384 + 16383) := List.filter_eq_self.2 (fun x hx => by have := (hi_mem.1 hx).2; simp; omega)
 rw [outC, List.filter_append, List.filter_append, e1, e2, e3, List.append_nil]
set_option maxHeartbeats 4000000 in
set_option maxRecDepth 100000 in
theorem runmap17 (vm vc : Value) (ms cs : List (Nat × Int)) (page n last : Nat) (w : World) (hm : Sl .i64 w vm ms) (hc : Sl .u64 w vc cs) (lm : ms.length ≤ 536870912) (lc : cs.length ≤ 536870912) (hrm : ∀ y ∈ ms, y.1 < 18446744073709551616) (hrc : ∀ y ∈ cs, y.1 < 18446744073709551616) (hp : pagesOk page n = true) (hl : last = page + n - 1) :
  Calls Tryz.prog 62 #[.agg #[vm, vc], .int .u64 (page : Int), .int .u64 (n : Int)] w fun e w' => ∃ vm' vc', e = .returned (.tuple #[.agg #[vm', vc'], .int .i64 0]) ∧ OwnH w.heap.size w' vm' vc' (outM page last ms) (outC page last cs) ∧ Below w.heap.size w w' := by
 obtain ⟨W, hW, hb, hsz, c0, c1, _, _, g0, g1⟩ := box2b w vm vc (.slice none 0 0) (.slice none 0 0) 25 25
 have hWsz : W.heap.size = w.heap.size + 2 := by omega
 obtain ⟨am, pm, rfl, x1, x2, x4⟩ : ∃ ao cap, vm = .slice ao ms.length cap ∧ ms.length ≤ cap ∧ cap ≤ 9223372036854775807 ∧ ∀ i (h : i < ms.length), ∃ b o, ao = some ⟨b, o, none⟩ ∧ W.cell? ⟨b, o + i * 2, none⟩ = some (.int .u64 (ms[i].1 : Int)) ∧ W.cell? ⟨b, o + i * 2 + 1, none⟩ = some (.int .i64 ms[i].2) := by
  obtain ⟨ao, cap, e, q1, q2, _, q4⟩ := hm.keep hb
  exact ⟨ao, cap, e, q1, q2, q4⟩
 obtain ⟨ac, pc, rfl, z1, z2, z4⟩ : ∃ ao cap, vc = .slice ao cs.length cap ∧ cs.length ≤ cap ∧ cap ≤ 9223372036854775807 ∧ ∀ i (h : i < cs.length), ∃ b o, ao = some ⟨b, o, none⟩ ∧ W.cell? ⟨b, o + i * 2, none⟩ = some (.int .u64 (cs[i].1 : Int)) ∧ W.cell? ⟨b, o + i * 2 + 1, none⟩ = some (.int .u64 cs[i].2) := by
  obtain ⟨ao, cap, e, q1, q2, _, q4⟩ := hc.keep hb
  exact ⟨ao, cap, e, q1, q2, q4⟩
 have HXM : Hid (∀ i (h : i < ms.length), ∃ b o, am = some ⟨b, o, none⟩ ∧ W.cell? ⟨b, o + i * 2, none⟩ = some (.int .u64 (ms[i].1 : Int)) ∧ W.cell? ⟨b, o + i * 2 + 1, none⟩ = some (.int .i64 ms[i].2)) := x4
 have HXC : Hid (∀ i (h : i < cs.length), ∃ b o, ac = some ⟨b, o, none⟩ ∧ W.cell? ⟨b, o + i * 2, none⟩ = some (.int .u64 (cs[i].1 : Int)) ∧ W.cell? ⟨b, o + i * 2 + 1, none⟩ = some (.int .u64 cs[i].2)) := z4
 obtain ⟨i0, hi, hz0, hz1, hz2⟩ := info_parts info54
 have HI : Hid (Tryz.prog.info? 77 = some i0 ∧ i0.zero = some (.agg #[.int .u64 0, .int .i64 0]) ∧ i0.size = 2 ∧ i0.bytes = 16) := ⟨hi, hz0, hz1, hz2⟩
 clear hi hz0 hz1 hz2
 obtain ⟨j0, hi, hz0, hz1, hz2⟩ := info_parts info58
 have HJ : Hid (Tryz.prog.info? 82 = some j0 ∧ j0.zero = some (.agg #[.int .u64 0, .int .u64 0]) ∧ j0.size = 2 ∧ j0.bytes = 16) := ⟨hi, hz0, hz1, hz2⟩
 clear hi hz0 hz1 hz2
 have hpp : n ≠ 0 ∧ page + n ≤ 1125899906842624 := by simpa [pagesOk] using hp
 have K41 := wrong41 page n 0 (by omega) (by omega) W
 rw [hp, show protOk 0 = true by decide] at K41
 have HN : Hid (last = page + n - 1 ∧ n ≠ 0) := ⟨hl, hpp.1⟩
 have HRM : Hid (∀ y ∈ ms, y.1 < 18446744073709551616) := hrm
 have HRC : Hid (∀ y ∈ cs, y.1 < 18446744073709551616) := hrc
 obtain ⟨zm, hzm⟩ : ∃ z, z = outM page last ms := ⟨_, rfl⟩
 obtain ⟨zc, hzc⟩ : ∃ z, z = outC page last cs := ⟨_, rfl⟩
 rw [← hzm, ← hzc]
 have HZ : Hid (zm = outM page last ms ∧ zc = outC page last cs) := ⟨hzm, hzc⟩
 have HWS : Hid (W.heap.size = w.heap.size + 2) := hWsz
 clear x4 z4 hm hc hrm hrc hp hl hzm hzc hpp hsz hWsz
 go_enter Tryz.func62, Tryz.ntmps62
 go_wp2_with fail
 refine K41.mono ?_
 rintro e w0 ⟨rfl, h0⟩
 subst h0
 clear K41
 go_wp2
 go_loopw [8, 10] (fun s i wr => ∃ m : Nat, m ≤ ms.length ∧ i = .int .i64 (m : Int) ∧ wr.ownsRow w0.heap.size 77 2 s (outM page last (ms.take m)).length (rowOf .i64 (outM page last (ms.take m))) ∧ Below w0.heap.size w0 wr) (fun _ i _ => ms.length - (intOf i).toNat)
 case atStart => exact ⟨0, Nat.zero_le _, rfl, World.ownsRow_nil _ _ _ _, Below.refl _ _⟩
 case round =>
  obtain ⟨m, hmle, rfl, how, hbr⟩ := hrel
  obtain ⟨sa, sn, sp, rfl⟩ := own_shape how
  have hlm : (outM page last (ms.take m)).length ≤ m := Nat.le_trans (List.length_filter_le _ _) (by simp; omega)
  have e0 := keep_cell hbr c0
  have e1 := keep_cell hbr c1
  have hWr := hbr.size
  by_cases hml : m < ms.length
  ·obtain ⟨bb, o, rfl, D0, D1⟩ := HXM.out m hml
   have d0 := keep_cell hbr D0
   have d1 := keep_cell hbr D1
   have HSN := outM_snoc page last ms m hml
   obtain ⟨p, hp⟩ : ∃ p, p = ms[m].1 := ⟨_, rfl⟩
   obtain ⟨r, hr⟩ : ∃ r, r = ms[m].2 := ⟨_, rfl⟩
   have hx : ms[m] = (p, r) := by rw [hp, hr]
   have hpl := HRM.out _ (List.getElem_mem hml)
   rw [hx] at HSN hpl
   simp only at HSN hpl
   rw [← hp] at d0
   rw [← hr] at d1
   clear hp hr hx
   generalize outM page last (ms.take m) = xs at how HSN hlm
   by_cases k1 : p < page
   ·have HSN : Hid (outM page last (ms.take (m + 1)) = xs ++ [(p, r)]) := by show _ = _; rw [HSN, if_pos (Or.inl k1)]
    have n1 : (p : Int) < (page : Int) := by omega
    clear D0 D1 n1
    have n1 : decide ((p : Int) < (page : Int)) = true := decide_eq_true (by omega)
    go_wp2_with (at_builtin; refine wpList_append_own _ rfl (.tmp 41) (.tmp 47) 22 rfl w0.heap.size 77 i0 _ 2 16 Tryz.underlying22 HI.out.1 HI.out.2.1 HI.out.2.2.1 HI.out.2.2.2 rfl (by decide) _ _ _ rfl (own_alloc how _) ⟨wr.heap.size, 0, none⟩ 1 1 [.int .u64 (p : Int), .int .i64 r] rfl rfl (cells2 _ _ _ _) (one2 _ _ _) (by unfold maxLen; omega) (by omega) (by simp; omega) ?_; intro sv w2 how2 hgr2 _; obtain ⟨sa2, sn2, sp2, rfl⟩ := own_shape how2; have R2 := app_own how2; have B2 : Below w0.heap.size w0 w2 := app_below _ hbr hWr hgr2 (own_ge how); have S2 := B2.size; have y20 := keep_cell (B2) c0; have y21 := keep_cell (B2) c1; have HR2 : Hid (w2.ownsRow w0.heap.size 77 2 (.slice sa2 sn2 sp2) (xs ++ [(p, r)]).length (rowOf .i64 (xs ++ [(p, r)]))) := R2; have HB2 : Hid (Below w0.heap.size w0 w2) := B2; clear R2 B2 how2 hgr2 S2)
    go_roundw
    case rel => exact ⟨m + 1, by omega, by go_num, by rw [HSN.out]; exact HR2.out, HB2.out⟩
    case measure => simp [intOf]; omega
   ·have n1 : ¬ (p : Int) < (page : Int) := by omega
    obtain ⟨d, hd, hd2⟩ : ∃ d : Nat, IntKind.u64.wrap ((p : Int) - (page : Int)) = (d : Int) ∧ d = p - page := ⟨p - page, by rw [IntKind.wrap_u64]; omega, rfl⟩
    by_cases k2 : last < p
    ·have HSN : Hid (outM page last (ms.take (m + 1)) = xs ++ [(p, r)]) := by show _ = _; rw [HSN, if_pos (Or.inr k2)]
     have n2 : (n : Int) ≤ (d : Int) := by have := HN.out; omega
     have n2' : n ≤ d := by omega
     clear k2 D0 D1 hd2
     go_wp2_with (at_builtin; refine wpList_append_own _ rfl (.tmp 41) (.tmp 47) 22 rfl w0.heap.size 77 i0 _ 2 16 Tryz.underlying22 HI.out.1 HI.out.2.1 HI.out.2.2.1 HI.out.2.2.2 rfl (by decide) _ _ _ rfl (own_alloc how _) ⟨wr.heap.size, 0, none⟩ 1 1 [.int .u64 (p : Int), .int .i64 r] rfl rfl (cells2 _ _ _ _) (one2 _ _ _) (by unfold maxLen; omega) (by omega) (by simp; omega) ?_; intro sv w2 how2 hgr2 _; obtain ⟨sa2, sn2, sp2, rfl⟩ := own_shape how2; have R2 := app_own how2; have B2 : Below w0.heap.size w0 w2 := app_below _ hbr hWr hgr2 (own_ge how); have S2 := B2.size; have y20 := keep_cell (B2) c0; have y21 := keep_cell (B2) c1; have HR2 : Hid (w2.ownsRow w0.heap.size 77 2 (.slice sa2 sn2 sp2) (xs ++ [(p, r)]).length (rowOf .i64 (xs ++ [(p, r)]))) := R2; have HB2 : Hid (Below w0.heap.size w0 w2) := B2; clear R2 B2 how2 hgr2 S2)
     go_roundw
     case rel => exact ⟨m + 1, by omega, by go_num, by rw [HSN.out]; exact HR2.out, HB2.out⟩
     case measure => simp [intOf]; omega
    ·have HSN : Hid (outM page last (ms.take (m + 1)) = xs) := by show _ = _; rw [HSN, if_neg (by omega), List.append_nil]
     have n2 : ¬ (n : Int) ≤ (d : Int) := by have := HN.out; omega
     have HOW : Hid (wr.ownsRow w0.heap.size 77 2 (.slice sa sn sp) xs.length (rowOf .i64 xs)) := how
     have HBR : Hid (Below w0.heap.size w0 wr) := hbr
     have n2' : ¬ n ≤ d := by omega
     clear k2 D0 D1 hd2 how hbr hWr
     go_wp2
     go_roundw
     case rel => exact ⟨m + 1, by omega, by go_num, by rw [HSN.out]; exact HOW.out, HBR.out⟩
     case measure => simp [intOf]; omega
  ·obtain rfl : m = ms.length := by omega
   rw [List.take_length] at how
   clear hlm

   rw [← HZ.out.1] at how
   have hbW1 := hbr
   have how1 := how
   clear how hbr e0 e1 hmle hml
   obtain ⟨w1, hw1⟩ : ∃ x, x = wr := ⟨_, rfl⟩
   rw [← hw1] at hWr hbW1 how1 ⊢
   clear hw1
   have e0 := keep_cell hbW1 c0
   have e1 := keep_cell hbW1 c1
   go_wp2
   go_loopw [9, 12] (fun s i wr => ∃ m : Nat, m ≤ cs.length ∧ i = .int .i64 (m : Int) ∧ wr.ownsRow w1.heap.size 82 2 s (outC page last (cs.take m)).length (rowOf .u64 (outC page last (cs.take m))) ∧ Below w1.heap.size w1 wr) (fun _ i _ => cs.length - (intOf i).toNat)
   case atStart => exact ⟨0, Nat.zero_le _, rfl, World.ownsRow_nil _ _ _ _, Below.refl _ _⟩
   case round =>
    clear e0 e1
    have hW1 := hWr
    clear hWr
    obtain ⟨m, hmle, rfl, how, hbr⟩ := hrel
    obtain ⟨ta, tn, tp, rfl⟩ := own_shape how
    have hlm : (outC page last (cs.take m)).length ≤ m := Nat.le_trans (List.length_filter_le _ _) (by simp; omega)
    have e0 := keep_cell (below_tr hbW1 hbr) c0
    have e1 := keep_cell (below_tr hbW1 hbr) c1
    have hWr := hbr.size
    by_cases hml : m < cs.length
    ·obtain ⟨bb, o, rfl, D0, D1⟩ := HXC.out m hml
     have d0 := keep_cell (below_tr hbW1 hbr) D0
     have d1 := keep_cell (below_tr hbW1 hbr) D1
     have HSN := outC_snoc page last cs m hml
     obtain ⟨p, hp⟩ : ∃ p, p = cs[m].1 := ⟨_, rfl⟩
     obtain ⟨r, hr⟩ : ∃ r, r = cs[m].2 := ⟨_, rfl⟩
     have hx : cs[m] = (p, r) := by rw [hp, hr]
     have hpl := HRC.out _ (List.getElem_mem hml)
     rw [hx] at HSN hpl
     simp only at HSN hpl
     rw [← hp] at d0
     rw [← hr] at d1
     clear hp hr hx
     obtain ⟨pg, hpg⟩ : ∃ t, t = p / 16384 := ⟨_, rfl⟩
     have y1 : IntKind.u64.wrap (pg : Int) = (pg : Int) := by rw [IntKind.wrap_u64]; omega
     rw [← hpg] at HSN
     have y1' : (p : Int) / 16384 = (pg : Int) := by omega
     have hpgl : pg < 18446744073709551616 := by omega
     clear hpg hpl
     generalize outC page last (cs.take m) = xs at how HSN hlm
     by_cases k1 : pg < page
     ·have HSN : Hid (outC page last (cs.take (m + 1)) = xs ++ [(p, r)]) := by show _ = _; rw [HSN, if_pos (Or.inl k1)]
      have n1 : (pg : Int) < (page : Int) := by omega
      clear D0 D1 n1
      have n1 : decide ((pg : Int) < (page : Int)) = true := decide_eq_true (by omega)
      go_wp2_with (at_builtin; refine wpList_append_own _ rfl (.tmp 73) (.tmp 79) 23 rfl w1.heap.size 82 j0 _ 2 16 Tryz.underlying23 HJ.out.1 HJ.out.2.1 HJ.out.2.2.1 HJ.out.2.2.2 rfl (by decide) _ _ _ rfl (own_alloc how _) ⟨wr.heap.size, 0, none⟩ 1 1 [.int .u64 (p : Int), .int .u64 r] rfl rfl (cells2 _ _ _ _) (one2 _ _ _) (by unfold maxLen; omega) (by omega) (by simp; omega) ?_; intro sv w2 how2 hgr2 _; obtain ⟨sa2, sn2, sp2, rfl⟩ := own_shape how2; have R2 := app_own how2; have B2 : Below w1.heap.size w1 w2 := app_below _ hbr hWr hgr2 (own_ge how); have S2 := B2.size; have y20 := keep_cell (below_tr hbW1 B2) c0; have y21 := keep_cell (below_tr hbW1 B2) c1; have HR2 : Hid (w2.ownsRow w1.heap.size 82 2 (.slice sa2 sn2 sp2) (xs ++ [(p, r)]).length (rowOf .u64 (xs ++ [(p, r)]))) := R2; have HB2 : Hid (Below w1.heap.size w1 w2) := B2; clear R2 B2 how2 hgr2 S2)
      go_roundw
      case rel => exact ⟨m + 1, by omega, by go_num, by rw [HSN.out]; exact HR2.out, HB2.out⟩
      case measure => simp [intOf]; omega
     ·have n1 : ¬ (pg : Int) < (page : Int) := by omega
      obtain ⟨d, hd, hd2⟩ : ∃ d : Nat, IntKind.u64.wrap ((pg : Int) - (page : Int)) = (d : Int) ∧ d = pg - page := ⟨pg - page, by rw [IntKind.wrap_u64]; omega, rfl⟩
      by_cases k2 : last < pg
      ·have HSN : Hid (outC page last (cs.take (m + 1)) = xs ++ [(p, r)]) := by show _ = _; rw [HSN, if_pos (Or.inr k2)]
       have n2 : (n : Int) ≤ (d : Int) := by have := HN.out; omega
       have n2' : n ≤ d := by omega
       clear k2 D0 D1 hd2
       go_wp2_with (at_builtin; refine wpList_append_own _ rfl (.tmp 73) (.tmp 79) 23 rfl w1.heap.size 82 j0 _ 2 16 Tryz.underlying23 HJ.out.1 HJ.out.2.1 HJ.out.2.2.1 HJ.out.2.2.2 rfl (by decide) _ _ _ rfl (own_alloc how _) ⟨wr.heap.size, 0, none⟩ 1 1 [.int .u64 (p : Int), .int .u64 r] rfl rfl (cells2 _ _ _ _) (one2 _ _ _) (by unfold maxLen; omega) (by omega) (by simp; omega) ?_; intro sv w2 how2 hgr2 _; obtain ⟨sa2, sn2, sp2, rfl⟩ := own_shape how2; have R2 := app_own how2; have B2 : Below w1.heap.size w1 w2 := app_below _ hbr hWr hgr2 (own_ge how); have S2 := B2.size; have y20 := keep_cell (below_tr hbW1 B2) c0; have y21 := keep_cell (below_tr hbW1 B2) c1; have HR2 : Hid (w2.ownsRow w1.heap.size 82 2 (.slice sa2 sn2 sp2) (xs ++ [(p, r)]).length (rowOf .u64 (xs ++ [(p, r)]))) := R2; have HB2 : Hid (Below w1.heap.size w1 w2) := B2; clear R2 B2 how2 hgr2 S2)
       go_roundw
       case rel => exact ⟨m + 1, by omega, by go_num, by rw [HSN.out]; exact HR2.out, HB2.out⟩
       case measure => simp [intOf]; omega
      ·have HSN : Hid (outC page last (cs.take (m + 1)) = xs) := by show _ = _; rw [HSN, if_neg (by omega), List.append_nil]
       have n2 : ¬ (n : Int) ≤ (d : Int) := by have := HN.out; omega
       have HOW : Hid (wr.ownsRow w1.heap.size 82 2 (.slice ta tn tp) xs.length (rowOf .u64 xs)) := how
       have HBR : Hid (Below w1.heap.size w1 wr) := hbr
       have n2' : ¬ n ≤ d := by omega
       clear k2 D0 D1 hd2 how hbr hWr
       go_wp2
       go_roundw
       case rel => exact ⟨m + 1, by omega, by go_num, by rw [HSN.out]; exact HOW.out, HBR.out⟩
       case measure => simp [intOf]; omega
    ·obtain rfl : m = cs.length := by omega
     rw [List.take_length] at how
     clear hlm

     rw [← HZ.out.2] at how
     have ho1 := own_keep how1 hbr
     have hbx := below_tr hbW1 hbr
     have hbw := below_tr hb hbx
     have G0 := g0.keep hbx
     have G1 := g1.keep hbx
     have q0 := G0.cell
     have q1 := G1.cell
     have q2 := G0.frozen
     have q3 := G1.frozen
     have hws := HWS.out
     have SM : Hid (OwnH w.heap.size ((wr.setCell ⟨w.heap.size + 1, 0, none⟩ (.slice sa sn sp)).setCell ⟨w.heap.size + 1, 1, none⟩ (.slice ta tn tp)) (.slice sa sn sp) (.slice ta tn tp) zm zc) := ⟨res2_own ho1 (by omega) (by omega), res2_own how (by omega) (by omega)⟩
     have SB : Hid (Below w.heap.size w ((wr.setCell ⟨w.heap.size + 1, 0, none⟩ (.slice sa sn sp)).setCell ⟨w.heap.size + 1, 1, none⟩ (.slice ta tn tp))) := below_set (below_set hbw (by simp) _) (by simp) _
     clear how ho1 how1 hws
     go_wp2
     (try simp only [Exit.inBlock, Exit.then])
     obtain ⟨r0, r1⟩ := res2 wr (w.heap.size + 1) (.slice sa sn sp) (.slice ta tn tp) G0 G1
     refine bodyPost_ret (v := .tuple #[.agg #[.slice sa sn sp, .slice ta tn tp], .int .i64 0]) ?_ rfl ⟨_, _, rfl, SM.out, SB.out⟩
     rw [results_cell_tmp rfl]; simp [go_sem, r0, r1]
set_option linter.unusedSimpArgs false
theorem rwrong42 (first n : Nat) (prot : Int) (h1 : first < 4294967296) (h2 : n < 4294967296) (w : World) :
  Calls Tryz.prog 54 #[.int .u32 (first : Int), .int .u32 (n : Int), .int .i64 prot] w fun e w' => e = .returned (.bool (!(gpagesOk first n && protOk prot))) ∧ w' = w := by
 have hP : gpagesOk first n = decide ((n : Int) ≠ 0 ∧ (first : Int) + n ≤ 1048576) := by
  unfold gpagesOk; congr 1; simp; omega
 rw [hP, protOk]
 obtain ⟨p, hp⟩ : ∃ p : Int, p = first := ⟨_, rfl⟩
 obtain ⟨m, hm⟩ : ∃ m : Int, m = n := ⟨_, rfl⟩
 have g1 : 0 ≤ p := by omega
 have g2 : p < 4294967296 := by omega
 have g3 : 0 ≤ m := by omega
 rw [← hp, ← hm]
 clear hp hm hP h1 h2
 by_cases a : m = 0
 ·subst a
  go_enter Tryz.func54, Tryz.ntmps54
  go_wp2
  go_ret
  exact ⟨by simp, rfl⟩
 by_cases b : 1048576 ≤ p
 ·go_enter Tryz.func54, Tryz.ntmps54
  go_wp2
  go_ret
  exact ⟨by simp; omega, rfl⟩
 have e : IntKind.u32.wrap (1048576 - p) = 1048576 - p := by rw [IntKind.wrap_u32]; omega
 have e' : (1048576 - p) % 4294967296 = 1048576 - p := by omega
 by_cases c : 1048576 - p < m
 ·go_enter Tryz.func54, Tryz.ntmps54
  go_wp2
  go_ret
  exact ⟨by simp; omega, rfl⟩
 by_cases d : prot < 0
 ·go_enter Tryz.func54, Tryz.ntmps54
  go_wp2
  go_ret
  exact ⟨by simp; omega, rfl⟩
 by_cases d2 : 7 < prot
 ·rw [show (!(decide (m ≠ 0 ∧ p + m ≤ 1048576) && decide (0 ≤ prot ∧ prot ≤ 7))) = true by simp; omega]
  go_enter Tryz.func54, Tryz.ntmps54
  go_wp2
  go_ret
  exact ⟨by first | rfl | (simp; done) | (simp; omega), rfl⟩
 ·rw [show (!(decide (m ≠ 0 ∧ p + m ≤ 1048576) && decide (0 ≤ prot ∧ prot ≤ 7))) = false by simp; omega]
  go_enter Tryz.func54, Tryz.ntmps54
  go_wp2
  go_ret
  exact ⟨by first | rfl | (simp; done) | (simp; omega), rfl⟩
theorem rhostPage44 (vm vc vp : Value) (b n : Nat) (hb : b ≤ 4611686018427387904) (hn : n < 4294967296) (w : World) (hm : ∃ a n p, vm = .slice a n p) (hc : ∃ a n p, vc = .slice a n p) (hp : ∃ a n p, vp = .slice a n p) :
  Calls Tryz.prog 56 #[.agg #[vm, vc, .int .u64 (b : Int), vp], .int .u32 (n : Int)] w fun e w' => e = .returned (.int .u64 ((_root_.Go.Proofs.YtkpmkgkfpikpfaaGreat.hp b (n / 4) : Nat) : Int)) ∧ Below w.heap.size w w' := by
 obtain ⟨W, hW, hbb, hsz, c0, c1, c2, c3, _⟩ := box4 w vm vc (.int .u64 (b : Int)) vp 29
 obtain ⟨_, _, _, rfl⟩ := hm
 obtain ⟨_, _, _, rfl⟩ := hc
 obtain ⟨_, _, _, rfl⟩ := hp
 obtain ⟨q, hq⟩ : ∃ q, q = b / 16384 := ⟨_, rfl⟩
 obtain ⟨r, hr⟩ : ∃ r, r = n / 4 := ⟨_, rfl⟩
 obtain ⟨z, hz⟩ : ∃ z, z = q + r := ⟨_, rfl⟩
 rw [show _root_.Go.Proofs.YtkpmkgkfpikpfaaGreat.hp b (n / 4) = z by rw [hz, hq, hr]; rfl]
 have x1 : IntKind.u64.wrap ((b : Int) / 16384) = (q : Int) := by rw [IntKind.wrap_u64]; omega
 have x2 : IntKind.u64.wrap (n : Int) = (n : Int) := by rw [IntKind.wrap_u64]; omega
 have x3 : IntKind.u64.wrap ((n : Int) / 4) = (r : Int) := by rw [IntKind.wrap_u64]; omega
 have x4 : IntKind.u64.wrap ((q : Int) + (r : Int)) = (z : Int) := by rw [IntKind.wrap_u64]; omega
 have x5 : (b : Int) / 16384 = (q : Int) := by omega
 have x6 : (n : Int) / 4 = (r : Int) := by omega
 have x7 : IntKind.u64.wrap (q : Int) = (q : Int) := by rw [IntKind.wrap_u64]; omega
 have x8 : IntKind.u64.wrap (r : Int) = (r : Int) := by rw [IntKind.wrap_u64]; omega
 clear hq hr hz
 go_enter Tryz.func56, Tryz.ntmps56
 go_wp2
 go_ret
 exact ⟨rfl, hbb⟩
set_option maxHeartbeats 4000000 in
theorem rwithout43 (vm vc vp : Value) (bs first n last : Nat) (ps : List (Nat × Int)) (w : World) (hm : ∃ a n p, vm = .slice a n p) (hc : ∃ a n p, vc = .slice a n p) (hp : Pg.Sl .i64 w vp ps) (lp : ps.length ≤ 1000000) (hpn : ∀ y ∈ ps, y.1 < 4294967296) (hn : n ≠ 0) (hfn : first + n < 4294967296) (hla : last = first + n - 1) :
  Calls Tryz.prog 55 #[.agg #[vm, vc, .int .u64 (bs : Int), vp], .int .u32 (first : Int), .int .u32 (n : Int)] w fun e w' => ∃ v', e = .returned v' ∧ w'.ownsRow w.heap.size 53 2 v' (outM first last ps).length (Pg.rowOf .i64 (outM first last ps)) ∧ Below w.heap.size w w' := by
 obtain ⟨W, hW, hb, hsz, c0, c1, c2, c3, _⟩ := box4 w vm vc (.int .u64 (bs : Int)) vp 29
 obtain ⟨_, _, _, rfl⟩ := hm
 obtain ⟨_, _, _, rfl⟩ := hc
 obtain ⟨ap, pp, rfl, x1, x2, x4⟩ : ∃ ao cap, vp = .slice ao ps.length cap ∧ ps.length ≤ cap ∧ cap ≤ 9223372036854775807 ∧ ∀ i (h : i < ps.length), ∃ b o, ao = some ⟨b, o, none⟩ ∧ W.cell? ⟨b, o + i * 2, none⟩ = some (.int .u32 (ps[i].1 : Int)) ∧ W.cell? ⟨b, o + i * 2 + 1, none⟩ = some (.int .i64 ps[i].2) := by
  obtain ⟨ao, cap, e, q1, q2, _, q4⟩ := hp.keep hb
  exact ⟨ao, cap, e, q1, q2, q4⟩
 have HX : Hid (∀ i (h : i < ps.length), ∃ b o, ap = some ⟨b, o, none⟩ ∧ W.cell? ⟨b, o + i * 2, none⟩ = some (.int .u32 (ps[i].1 : Int)) ∧ W.cell? ⟨b, o + i * 2 + 1, none⟩ = some (.int .i64 ps[i].2)) := x4
 obtain ⟨i0, hi, hz0, hz1, hz2⟩ := info_parts Pg.info54
 have HI : Hid (Tryz.prog.info? 53 = some i0 ∧ i0.zero = some (.agg #[.int .u32 0, .int .i64 0]) ∧ i0.size = 2 ∧ i0.bytes = 16) := ⟨hi, hz0, hz1, hz2⟩
 clear hi hz0 hz1 hz2
 have HPN : Hid (∀ y ∈ ps, y.1 < 4294967296) := hpn
 have HN : Hid (last = first + n - 1 ∧ n ≠ 0) := ⟨hla, hn⟩
 have HWS : Hid (W.heap.size = w.heap.size + 1) := by rw [hsz]; rfl
 obtain ⟨zp, hzp⟩ : ∃ z, z = outM first last ps := ⟨_, rfl⟩
 rw [← hzp]
 have HZ : Hid (zp = outM first last ps) := hzp
 have hlaz : first ≤ last := by omega
 clear x4 hp hpn hla hn hzp hsz
 go_enter Tryz.func55, Tryz.ntmps55
 go_wp2
 go_loopw [7, 8] (fun s i wr => ∃ m : Nat, m ≤ ps.length ∧ i = .int .i64 (m : Int) ∧ wr.ownsRow W.heap.size 53 2 s (outM first last (ps.take m)).length (Pg.rowOf .i64 (outM first last (ps.take m))) ∧ Below W.heap.size W wr) (fun _ i _ => ps.length - (intOf i).toNat)
 case atStart => exact ⟨0, Nat.zero_le _, rfl, World.ownsRow_nil _ _ _ _, Below.refl _ _⟩
 case round =>
  obtain ⟨m, hmle, rfl, how, hbr⟩ := hrel
  obtain ⟨sa, sn, sp, rfl⟩ := own_shape how
  have hlm : (outM first last (ps.take m)).length ≤ m := Nat.le_trans (List.length_filter_le _ _) (by simp; omega)
  have e0 := keep_cell hbr c0
  have e1 := keep_cell hbr c1
  have e2 := keep_cell hbr c2
  have e3 := keep_cell hbr c3
  have hWr := hbr.size
  by_cases hml : m < ps.length
  ·obtain ⟨bb, o, rfl, D0, D1⟩ := HX.out m hml
   have d0 := keep_cell hbr D0
   have d1 := keep_cell hbr D1
   have HSN := outM_snoc first last ps m hml
   obtain ⟨p, hp⟩ : ∃ p, p = ps[m].1 := ⟨_, rfl⟩
   obtain ⟨r, hr⟩ : ∃ r, r = ps[m].2 := ⟨_, rfl⟩
   have hx : ps[m] = (p, r) := by rw [hp, hr]
   have hpl := HPN.out _ (List.getElem_mem hml)
   rw [hx] at HSN hpl
   simp only at HSN hpl
   rw [← hp] at d0
   rw [← hr] at d1
   clear hp hr hx D0 D1
   generalize outM first last (ps.take m) = xs at how HSN hlm
   obtain ⟨W2, hW2, hb2, hsz2, m0, m1, mf0, mf1⟩ := box2 wr (.int .u32 (p : Int)) (.int .i64 r) 53
   have how2' := own_keep how hb2
   have hbr2 := below_tr hbr hb2
   have hW2z := hbr2.size
   have e0 := keep_cell hb2 e0
   have e1 := keep_cell hb2 e1
   have e2 := keep_cell hb2 e2
   have e3 := keep_cell hb2 e3
   clear hsz2 how hbr
   by_cases k1 : p < first
   ·have HSN : Hid (outM first last (ps.take (m + 1)) = xs ++ [(p, r)]) := by show _ = _; rw [HSN, if_pos (Or.inl k1)]
    have n1 : decide ((p : Int) < (first : Int)) = true := decide_eq_true (by omega)
    go_wp2_with (at_builtin; refine wpList_append_own _ rfl (.tmp 34) (.tmp 36) 27 rfl W.heap.size 53 i0 _ 2 16 Tryz.underlying27 HI.out.1 HI.out.2.1 HI.out.2.2.1 HI.out.2.2.2 rfl (by decide) _ _ _ rfl (own_alloc how2' _) ⟨W2.heap.size, 0, none⟩ 1 1 [.int .u32 (p : Int), .int .i64 r] rfl rfl (cells2 _ _ _ _) (Pg.one2 _ _ _) (by unfold maxLen; omega) (by omega) (by simp; omega) ?_; intro sv w2 how2 hgr2 _; obtain ⟨sa2, sn2, sp2, rfl⟩ := own_shape how2; have R2 := Pg.app_own how2; have B2 : Below W.heap.size W w2 := app_below _ hbr2 hW2z hgr2 (own_ge how2'); have S2 := B2.size; have y20 := keep_cell B2 c0; have y21 := keep_cell B2 c1; have y22 := keep_cell B2 c2; have y23 := keep_cell B2 c3; have HR2 : Hid (w2.ownsRow W.heap.size 53 2 (.slice sa2 sn2 sp2) (xs ++ [(p, r)]).length (Pg.rowOf .i64 (xs ++ [(p, r)]))) := R2; have HB2 : Hid (Below W.heap.size W w2) := B2; clear R2 B2 how2 hgr2 S2)
    go_roundw
    case rel => exact ⟨m + 1, by omega, by go_num, by rw [HSN.out]; exact HR2.out, HB2.out⟩
    case measure => simp [intOf]; omega
   ·have n1 : ¬ (p : Int) < (first : Int) := by omega
    obtain ⟨d, hd, hd2⟩ : ∃ d : Nat, IntKind.u32.wrap ((p : Int) - (first : Int)) = (d : Int) ∧ d = p - first := ⟨p - first, by rw [IntKind.wrap_u32]; omega, rfl⟩
    have hd' : ((p : Int) - (first : Int)) % 4294967296 = (d : Int) := by omega
    by_cases k2 : last < p
    ·have HSN : Hid (outM first last (ps.take (m + 1)) = xs ++ [(p, r)]) := by show _ = _; rw [HSN, if_pos (Or.inr k2)]
     have n2 : n ≤ d := by have := HN.out; omega
     clear k2 hd2
     go_wp2_with (at_builtin; refine wpList_append_own _ rfl (.tmp 34) (.tmp 36) 27 rfl W.heap.size 53 i0 _ 2 16 Tryz.underlying27 HI.out.1 HI.out.2.1 HI.out.2.2.1 HI.out.2.2.2 rfl (by decide) _ _ _ rfl (own_alloc how2' _) ⟨W2.heap.size, 0, none⟩ 1 1 [.int .u32 (p : Int), .int .i64 r] rfl rfl (cells2 _ _ _ _) (Pg.one2 _ _ _) (by unfold maxLen; omega) (by omega) (by simp; omega) ?_; intro sv w2 how2 hgr2 _; obtain ⟨sa2, sn2, sp2, rfl⟩ := own_shape how2; have R2 := Pg.app_own how2; have B2 : Below W.heap.size W w2 := app_below _ hbr2 hW2z hgr2 (own_ge how2'); have S2 := B2.size; have y20 := keep_cell B2 c0; have y21 := keep_cell B2 c1; have y22 := keep_cell B2 c2; have y23 := keep_cell B2 c3; have HR2 : Hid (w2.ownsRow W.heap.size 53 2 (.slice sa2 sn2 sp2) (xs ++ [(p, r)]).length (Pg.rowOf .i64 (xs ++ [(p, r)]))) := R2; have HB2 : Hid (Below W.heap.size W w2) := B2; clear R2 B2 how2 hgr2 S2)
     go_roundw
     case rel => exact ⟨m + 1, by omega, by go_num, by rw [HSN.out]; exact HR2.out, HB2.out⟩
     case measure => simp [intOf]; omega
    ·have HSN : Hid (outM first last (ps.take (m + 1)) = xs) := by show _ = _; rw [HSN, if_neg (by omega), List.append_nil]
     have n2 : ¬ n ≤ d := by have := HN.out; omega
     have HR2 : Hid (W2.ownsRow W.heap.size 53 2 (.slice sa sn sp) xs.length (Pg.rowOf .i64 xs)) := how2'
     have HB2 : Hid (Below W.heap.size W W2) := hbr2
     clear k2 hd2 how2' hbr2
     go_wp2
     go_roundw
     case rel => exact ⟨m + 1, by omega, by go_num, by rw [HSN.out]; exact HR2.out, HB2.out⟩
     case measure => simp [intOf]; omega
  ·obtain rfl : m = ps.length := by omega
   rw [List.take_length, ← HZ.out] at how
   have hbw := below_tr hb hbr
   have hws := HWS.out
   have HO : Hid (wr.ownsRow w.heap.size 53 2 (.slice sa sn sp) zp.length (Pg.rowOf .i64 zp)) := own_base how (by omega)
   clear how hlm hws
   go_wp2
   go_ret
   exact ⟨_, rfl, HO.out, hbw⟩
theorem srt_take {xs : List (Nat × Int)} (sm : Srt xs) : ∀ m (h : m < xs.length), ∀ y ∈ xs.take m, y.1 < (xs[m]).1 := fun m hm y hy => by
 rw [Srt, List.pairwise_iff_getElem] at sm
 obtain ⟨j, hj, rfl⟩ := List.getElem_of_mem hy
 simp at hj ⊢
 exact sm j m (by omega) hm (by omega)
set_option maxHeartbeats 8000000 in
theorem rwith47 (vm : Value) (ms : List (Nat × Int)) (page n : Nat) (prot : Int) (w : World) (hm : Pg.Sl .i64 w vm ms) (lm : ms.length ≤ 256) (hrm : ∀ y ∈ ms, y.1 < 4294967296) (hpp : n ≠ 0 ∧ page + n ≤ 1048576) (sm : Srt ms) (hout : ∀ y ∈ ms, y.1 < page ∨ page + n ≤ y.1) (hroom : ms.length + n ≤ 256) :
  Calls Tryz.prog 60 #[vm, .int .u32 (page : Int), .int .u32 (n : Int), .int .i64 prot] w fun e w' => ∃ vm', e = .returned vm' ∧ w'.ownsRow w.heap.size 53 2 vm' (lo ms page ++ added page prot n ++ hi ms (page + n - 1)).length (Pg.rowOf .i64 (lo ms page ++ added page prot n ++ hi ms (page + n - 1))) ∧ Below w.heap.size w w' := by
 obtain ⟨am, pm, rfl, x1, x2, x4⟩ : ∃ ao cap, vm = .slice ao ms.length cap ∧ ms.length ≤ cap ∧ cap ≤ 9223372036854775807 ∧ ∀ i (h : i < ms.length), ∃ b o, ao = some ⟨b, o, none⟩ ∧ w.cell? ⟨b, o + i * 2, none⟩ = some (.int .u32 (ms[i].1 : Int)) ∧ w.cell? ⟨b, o + i * 2 + 1, none⟩ = some (.int .i64 ms[i].2) := by
  obtain ⟨ao, cap, e, q1, q2, _, q4⟩ := hm
  exact ⟨ao, cap, e, q1, q2, q4⟩
 have HXM : Hid (∀ i (h : i < ms.length), ∃ b o, am = some ⟨b, o, none⟩ ∧ w.cell? ⟨b, o + i * 2, none⟩ = some (.int .u32 (ms[i].1 : Int)) ∧ w.cell? ⟨b, o + i * 2 + 1, none⟩ = some (.int .i64 ms[i].2)) := x4
 have HN : Hid (n ≠ 0 ∧ page + n ≤ 1048576) := hpp
 have HOUT : Hid (∀ y ∈ ms, y.1 < page ∨ page + n ≤ y.1) := hout
 have HNE : Hid (∀ y ∈ ms, y.1 ≠ page) := fun y hy => by have := hout y hy; omega
 have HS : Hid (∀ m (h : m < ms.length), ∀ y ∈ ms.take m, y.1 < (ms[m]).1) := srt_take sm
 have HROOM : Hid (ms.length + n ≤ 256) := hroom
 obtain ⟨i0, hi, hz0, hz1, hz2⟩ := info_parts Pg.info54
 have HI : Hid (Tryz.prog.info? 53 = some i0 ∧ i0.zero = some (.agg #[.int .u32 0, .int .i64 0]) ∧ i0.size = 2 ∧ i0.bytes = 16) := ⟨hi, hz0, hz1, hz2⟩
 clear hi hz0 hz1 hz2
 have hfin := (ins_end page (added page prot n) ms HNE.out).1
 rw [hi_page (n := n) hpp.1 hout] at hfin
 obtain ⟨zm, hzm⟩ : ∃ z, z = lo ms page ++ added page prot n ++ hi ms (page + n - 1) := ⟨_, rfl⟩
 rw [← hzm] at hfin ⊢
 have HZ : Hid (insL page (added page prot n) ms (ms.length + 1) = zm) := hfin
 have hnl : n ≤ 1048576 := by omega
 have hpl : page ≤ 1048576 := by omega
 clear x4 hm hrm hpp hout hroom sm hfin hzm
 obtain ⟨w0, hw0⟩ : ∃ t, t = w := ⟨_, rfl⟩
 rw [← hw0] at HXM ⊢
 clear hw0
 go_enter Tryz.func60, Tryz.ntmps60
 go_wp2
 go_loopw [9, 10, 11] (fun s d i wr => ∃ m : Nat, m ≤ ms.length + 1 ∧ i = .int .i64 (m : Int) ∧ d = .bool (dnM page ms m) ∧ wr.ownsRow w0.heap.size 53 2 s (insL page (added page prot n) ms m).length (Pg.rowOf .i64 (insL page (added page prot n) ms m)) ∧ Below w0.heap.size w0 wr) (fun _ _ i _ => ms.length + 1 - (intOf i).toNat)
 case atStart => exact ⟨0, Nat.zero_le _, rfl, by rw [dn_zero], by rw [ins_zero]; exact World.ownsRow_nil _ _ _ _, Below.refl _ _⟩
 case round =>
  obtain ⟨m, hmle, rfl, rfl, how, hbr⟩ := hrel
  obtain ⟨sa, sn, sp, rfl⟩ := own_shape how
  have hlm := ins_len page (added page prot n) ms m
  rw [added_len] at hlm
  have hWr := hbr.size
  by_cases hml : m < ms.length
  ·obtain ⟨bb, o, rfl, D0, D1⟩ := HXM.out m hml
   have hmL : m ≤ ms.length := by omega
   have hs := HS.out m hml
   have hne := HNE.out _ (List.getElem_mem hml)
   by_cases k1 : ms[m].1 < page
   ·obtain ⟨o1, o2, o3⟩ := ins_lt (ad := added page prot n) hml hs k1
    rw [o3]
    obtain ⟨p, hp⟩ : ∃ p, p = ms[m].1 := ⟨_, rfl⟩
    obtain ⟨r, hr⟩ : ∃ r, r = ms[m].2 := ⟨_, rfl⟩
    have hx : ms[m] = (p, r) := by rw [hp, hr]
    rw [hx] at o1
    rw [← hp] at D0 k1
    rw [← hr] at D1
    have HSN : Hid (insL page (added page prot n) ms (m + 1) = insL page (added page prot n) ms m ++ [(p, r)] ∧ dnM page ms (m + 1) = false) := ⟨o1, o2⟩
    have d0 := keep_cell hbr D0
    have d1 := keep_cell hbr D1
    have n1 : ¬ page < p := by omega
    have hmI : ((m : Int) == (ms.length : Int)) = false := by simp; omega
    generalize insL page (added page prot n) ms m = xs at how HSN hlm
    have hlx : xs.length ≤ 1000 := by have := HROOM.out; omega
    clear o1 o2 o3 hp hr hx D0 D1 hs hne k1 hlm
    go_wp2_with (at_builtin; refine wpList_append_own _ rfl (.tmp 53) (.tmp 58) 27 rfl w0.heap.size 53 i0 _ 2 16 Tryz.underlying27 HI.out.1 HI.out.2.1 HI.out.2.2.1 HI.out.2.2.2 rfl (by decide) _ _ _ rfl (own_alloc how _) ⟨wr.heap.size, 0, none⟩ 1 1 [.int .u32 (p : Int), .int .i64 r] rfl rfl (cells2 _ _ _ _) (Pg.one2 _ _ _) (by unfold maxLen; omega) (by omega) (by simp; omega) ?_; intro sv w2 how2 hgr2 _; obtain ⟨sa2, sn2, sp2, rfl⟩ := own_shape how2; have R2 := Pg.app_own how2; have B2 : Below w0.heap.size w0 w2 := app_below _ hbr hWr hgr2 (own_ge how); have S2 := B2.size; have HR2 : Hid (w2.ownsRow w0.heap.size 53 2 (.slice sa2 sn2 sp2) (xs ++ [(p, r)]).length (Pg.rowOf .i64 (xs ++ [(p, r)]))) := R2; have HB2 : Hid (Below w0.heap.size w0 w2) := B2; clear R2 B2 how2 hgr2 S2)
    go_roundw
    case rel => exact ⟨m + 1, by omega, by go_num, by rw [HSN.out.2], by rw [HSN.out.1]; exact HR2.out, HB2.out⟩
    case measure => simp [intOf] <;> omega
   ·obtain ⟨o1, o2⟩ := ins_gt (ad := added page prot n) HNE.out hml (show page < ms[m].1 by omega)
    obtain ⟨p, hp⟩ : ∃ p, p = ms[m].1 := ⟨_, rfl⟩
    obtain ⟨r, hr⟩ : ∃ r, r = ms[m].2 := ⟨_, rfl⟩
    have hx : ms[m] = (p, r) := by rw [hp, hr]
    rw [hx] at o1
    rw [← hp] at D0 k1 hne
    rw [← hr] at D1
    have n1 : page < p := by omega
    have hmI : ((m : Int) == (ms.length : Int)) = false := by simp; omega
    cases hd : dnM page ms m with
    | true =>
     rw [hd, if_pos rfl, List.append_nil] at o1
     have HSN : Hid (insL page (added page prot n) ms (m + 1) = insL page (added page prot n) ms m ++ [(p, r)] ∧ dnM page ms (m + 1) = true) := ⟨o1, o2⟩
     have d0 := keep_cell hbr D0
     have d1 := keep_cell hbr D1
     generalize insL page (added page prot n) ms m = xs at how HSN hlm
     have hlx : xs.length ≤ 1000 := by have := HROOM.out; omega
     clear o1 o2 hd hp hr hx D0 D1 hs hne k1 hlm
     go_wp2_with (at_builtin; refine wpList_append_own _ rfl (.tmp 53) (.tmp 58) 27 rfl w0.heap.size 53 i0 _ 2 16 Tryz.underlying27 HI.out.1 HI.out.2.1 HI.out.2.2.1 HI.out.2.2.2 rfl (by decide) _ _ _ rfl (own_alloc how _) ⟨wr.heap.size, 0, none⟩ 1 1 [.int .u32 (p : Int), .int .i64 r] rfl rfl (cells2 _ _ _ _) (Pg.one2 _ _ _) (by unfold maxLen; omega) (by omega) (by simp; omega) ?_; intro sv w2 how2 hgr2 _; obtain ⟨sa2, sn2, sp2, rfl⟩ := own_shape how2; have R2 := Pg.app_own how2; have B2 : Below w0.heap.size w0 w2 := app_below _ hbr hWr hgr2 (own_ge how); have S2 := B2.size; have HR2 : Hid (w2.ownsRow w0.heap.size 53 2 (.slice sa2 sn2 sp2) (xs ++ [(p, r)]).length (Pg.rowOf .i64 (xs ++ [(p, r)]))) := R2; have HB2 : Hid (Below w0.heap.size w0 w2) := B2; clear R2 B2 how2 hgr2 S2)
     go_roundw
     case rel => exact ⟨m + 1, by omega, by go_num, by rw [HSN.out.2], by rw [HSN.out.1]; exact HR2.out, HB2.out⟩
     case measure => simp [intOf] <;> omega
    | false =>
     rw [hd, if_neg (by simp)] at o1
     have HSN : Hid (insL page (added page prot n) ms (m + 1) = insL page (added page prot n) ms m ++ added page prot n ++ [(p, r)] ∧ dnM page ms (m + 1) = true) := ⟨o1, o2⟩
     have d0 := keep_cell hbr D0
     have d1 := keep_cell hbr D1
     generalize insL page (added page prot n) ms m = xs at how HSN hlm
     have HLX : Hid (xs.length ≤ 2 * m + n ∧ m ≤ ms.length) := ⟨hlm, by omega⟩
     have HOX : Hid (wr.ownsRow w0.heap.size 53 2 (.slice sa sn sp) xs.length (Pg.rowOf .i64 xs) ∧ Below w0.heap.size w0 wr) := ⟨how, hbr⟩
     clear o1 o2 hd hp hr hx hs hne k1 hlm how hbr hWr
     go_wp2
     go_loopw [9, 12] (fun s k wr => ∃ j : Nat, j ≤ n ∧ k = .int .u32 (j : Int) ∧ wr.ownsRow w0.heap.size 53 2 s (xs ++ added page prot j).length (Pg.rowOf .i64 (xs ++ added page prot j)) ∧ Below w0.heap.size w0 wr) (fun _ k _ => n - (intOf k).toNat)
     case atStart => exact ⟨0, Nat.zero_le _, rfl, by rw [added_zero, List.append_nil]; exact HOX.out.1, HOX.out.2⟩
     case round =>
      obtain ⟨j, hjn, rfl, how, hbr⟩ := hrel
      obtain ⟨ta, tn, tp, rfl⟩ := own_shape how
      have hWr := hbr.size
      by_cases hj : j < n
      ·have hlj : (xs ++ added page prot j).length ≤ 1000 := by rw [List.length_append, added_len]; have := HLX.out; have := HROOM.out; omega
       have HSJ : Hid (xs ++ added page prot (j + 1) = (xs ++ added page prot j) ++ [(page + j, prot)]) := by show _ = _; rw [added_snoc, List.append_assoc]
       obtain ⟨pk, hpk⟩ : ∃ t, t = page + j := ⟨_, rfl⟩
       have x3 : IntKind.u32.wrap ((page : Int) + (j : Int)) = (pk : Int) := by have := HN.out; rw [IntKind.wrap_u32]; omega
       have x3' : ((page : Int) + (j : Int)) % 4294967296 = (pk : Int) := by have := HN.out; omega
       have x5 : IntKind.u32.wrap ((j : Int) + 1) = ((j + 1 : Nat) : Int) := by rw [IntKind.wrap_u32]; omega
       have x5' : ((j : Int) + 1) % 4294967296 = ((j + 1 : Nat) : Int) := by omega
       have hjI : j < n := by omega
       rw [← hpk] at HSJ
       generalize xs ++ added page prot j = ys at how HSJ hlj
       clear hpk
       go_wp2_with (at_builtin; refine wpList_append_own _ rfl (.tmp 41) (.tmp 47) 27 rfl w0.heap.size 53 i0 _ 2 16 Tryz.underlying27 HI.out.1 HI.out.2.1 HI.out.2.2.1 HI.out.2.2.2 rfl (by decide) _ _ _ rfl (own_alloc how _) ⟨wr.heap.size, 0, none⟩ 1 1 [.int .u32 (pk : Int), .int .i64 prot] rfl rfl (cells2 _ _ _ _) (Pg.one2 _ _ _) (by unfold maxLen; omega) (by omega) (by simp; omega) ?_; intro sv w2 how2 hgr2 _; obtain ⟨sa2, sn2, sp2, rfl⟩ := own_shape how2; have R2 := Pg.app_own how2; have B2 : Below w0.heap.size w0 w2 := app_below _ hbr hWr hgr2 (own_ge how); have S2 := B2.size; have HR2 : Hid (w2.ownsRow w0.heap.size 53 2 (.slice sa2 sn2 sp2) (ys ++ [(pk, prot)]).length (Pg.rowOf .i64 (ys ++ [(pk, prot)]))) := R2; have HB2 : Hid (Below w0.heap.size w0 w2) := B2; clear R2 B2 how2 hgr2 S2)
       go_roundw
       case rel => exact ⟨j + 1, by omega, by go_num, by rw [HSJ.out]; exact HR2.out, HB2.out⟩
       case measure => simp [intOf] <;> omega
      ·obtain rfl : j = n := by omega
       have hjI : True := trivial
       clear hjn hj
       obtain ⟨xs2, hxs2⟩ : ∃ t, t = xs ++ added page prot j := ⟨_, rfl⟩
       have hlj : xs2.length ≤ 1000 := by rw [hxs2, List.length_append, added_len]; have := HLX.out; have := HROOM.out; omega
       rw [← hxs2] at how
       rw [← hxs2] at HSN
       have d0 := keep_cell hbr D0
       have d1 := keep_cell hbr D1
       clear hxs2
       go_wp2_with (at_builtin; refine wpList_append_own _ rfl (.tmp 53) (.tmp 58) 27 rfl w0.heap.size 53 i0 _ 2 16 Tryz.underlying27 HI.out.1 HI.out.2.1 HI.out.2.2.1 HI.out.2.2.2 rfl (by decide) _ _ _ rfl (own_alloc how _) ⟨wr.heap.size, 0, none⟩ 1 1 [.int .u32 (p : Int), .int .i64 r] rfl rfl (cells2 _ _ _ _) (Pg.one2 _ _ _) (by unfold maxLen; omega) (by omega) (by simp; omega) ?_; intro sv w2 how2 hgr2 _; obtain ⟨sa2, sn2, sp2, rfl⟩ := own_shape how2; have R2 := Pg.app_own how2; have B2 : Below w0.heap.size w0 w2 := app_below _ hbr hWr hgr2 (own_ge how); have S2 := B2.size; have HR2 : Hid (w2.ownsRow w0.heap.size 53 2 (.slice sa2 sn2 sp2) (xs2 ++ [(p, r)]).length (Pg.rowOf .i64 (xs2 ++ [(p, r)]))) := R2; have HB2 : Hid (Below w0.heap.size w0 w2) := B2; clear R2 B2 how2 hgr2 S2)
       go_roundw
       case rel => exact ⟨m + 1, by omega, by go_num, by rw [HSN.out.2], by rw [HSN.out.1]; exact HR2.out, HB2.out⟩
       case measure => simp [intOf] <;> omega
  ·by_cases hme : m = ms.length
   ·subst hme
    obtain ⟨_, o1, o2⟩ := ins_end page (added page prot n) ms HNE.out
    have hfe := (ins_end page (added page prot n) ms HNE.out).1
    rw [← hfe] at o1
    have hmI : ((ms.length : Int) == (ms.length : Int)) = true := by simp
    cases hd : dnM page ms ms.length with
    | true =>
     rw [hd, if_pos rfl, List.append_nil] at o1
     rw [o1] at how
     have HO2 : Hid (dnM page ms (ms.length + 1) = true) := o2
     have HOW : Hid (wr.ownsRow w0.heap.size 53 2 (.slice sa sn sp) (insL page (added page prot n) ms (ms.length + 1)).length (Pg.rowOf .i64 (insL page (added page prot n) ms (ms.length + 1)))) := how
     have HBR : Hid (Below w0.heap.size w0 wr) := hbr
     clear o1 o2 hd hfe how hbr hlm hWr
     go_wp2
     go_roundw
     case rel => exact ⟨ms.length + 1, by omega, by go_num, by rw [HO2.out], HOW.out, HBR.out⟩
     case measure => simp [intOf] <;> omega
    | false =>
     rw [hd, if_neg (by simp)] at o1
     have HSN : Hid (insL page (added page prot n) ms ms.length ++ added page prot n = insL page (added page prot n) ms (ms.length + 1) ∧ dnM page ms (ms.length + 1) = true) := ⟨o1, o2⟩
     have HLX : Hid ((insL page (added page prot n) ms ms.length).length ≤ 2 * ms.length + n) := hlm
     have HOX : Hid (wr.ownsRow w0.heap.size 53 2 (.slice sa sn sp) (insL page (added page prot n) ms ms.length).length (Pg.rowOf .i64 (insL page (added page prot n) ms ms.length)) ∧ Below w0.heap.size w0 wr) := ⟨how, hbr⟩
     generalize insL page (added page prot n) ms ms.length = xs at HOX HSN HLX
     clear o1 o2 hd hfe how hbr hlm hWr
     go_wp2
     go_loopw [9, 12] (fun s k wr => ∃ j : Nat, j ≤ n ∧ k = .int .u32 (j : Int) ∧ wr.ownsRow w0.heap.size 53 2 s (xs ++ added page prot j).length (Pg.rowOf .i64 (xs ++ added page prot j)) ∧ Below w0.heap.size w0 wr) (fun _ k _ => n - (intOf k).toNat)
     case atStart => exact ⟨0, Nat.zero_le _, rfl, by rw [added_zero, List.append_nil]; exact HOX.out.1, HOX.out.2⟩
     case round =>
      obtain ⟨j, hjn, rfl, how, hbr⟩ := hrel
      obtain ⟨ta, tn, tp, rfl⟩ := own_shape how
      have hWr := hbr.size
      by_cases hj : j < n
      ·have hlj : (xs ++ added page prot j).length ≤ 1000 := by rw [List.length_append, added_len]; have := HLX.out; have := HROOM.out; omega
       have HSJ : Hid (xs ++ added page prot (j + 1) = (xs ++ added page prot j) ++ [(page + j, prot)]) := by show _ = _; rw [added_snoc, List.append_assoc]
       obtain ⟨pk, hpk⟩ : ∃ t, t = page + j := ⟨_, rfl⟩
       have x3 : IntKind.u32.wrap ((page : Int) + (j : Int)) = (pk : Int) := by have := HN.out; rw [IntKind.wrap_u32]; omega
       have x3' : ((page : Int) + (j : Int)) % 4294967296 = (pk : Int) := by have := HN.out; omega
       have x5 : IntKind.u32.wrap ((j : Int) + 1) = ((j + 1 : Nat) : Int) := by rw [IntKind.wrap_u32]; omega
       have x5' : ((j : Int) + 1) % 4294967296 = ((j + 1 : Nat) : Int) := by omega
       have hjI : j < n := by omega
       rw [← hpk] at HSJ
       generalize xs ++ added page prot j = ys at how HSJ hlj
       clear hpk
       go_wp2_with (at_builtin; refine wpList_append_own _ rfl (.tmp 41) (.tmp 47) 27 rfl w0.heap.size 53 i0 _ 2 16 Tryz.underlying27 HI.out.1 HI.out.2.1 HI.out.2.2.1 HI.out.2.2.2 rfl (by decide) _ _ _ rfl (own_alloc how _) ⟨wr.heap.size, 0, none⟩ 1 1 [.int .u32 (pk : Int), .int .i64 prot] rfl rfl (cells2 _ _ _ _) (Pg.one2 _ _ _) (by unfold maxLen; omega) (by omega) (by simp; omega) ?_; intro sv w2 how2 hgr2 _; obtain ⟨sa2, sn2, sp2, rfl⟩ := own_shape how2; have R2 := Pg.app_own how2; have B2 : Below w0.heap.size w0 w2 := app_below _ hbr hWr hgr2 (own_ge how); have S2 := B2.size; have HR2 : Hid (w2.ownsRow w0.heap.size 53 2 (.slice sa2 sn2 sp2) (ys ++ [(pk, prot)]).length (Pg.rowOf .i64 (ys ++ [(pk, prot)]))) := R2; have HB2 : Hid (Below w0.heap.size w0 w2) := B2; clear R2 B2 how2 hgr2 S2)
       go_roundw
       case rel => exact ⟨j + 1, by omega, by go_num, by rw [HSJ.out]; exact HR2.out, HB2.out⟩
       case measure => simp [intOf] <;> omega
      ·obtain rfl : j = n := by omega
       have hjI : True := trivial
       clear hjn hj
       rw [HSN.out.1] at how
       have HOW : Hid (wr.ownsRow w0.heap.size 53 2 (.slice ta tn tp) (insL page (added page prot j) ms (ms.length + 1)).length (Pg.rowOf .i64 (insL page (added page prot j) ms (ms.length + 1)))) := how
       have HBR : Hid (Below w0.heap.size w0 wr) := hbr
       clear how hbr
       go_wp2
       go_roundw
       case rel => exact ⟨ms.length + 1, by omega, by go_num, by rw [HSN.out.2], HOW.out, HBR.out⟩
       case measure => simp [intOf] <;> omega
   ·obtain rfl : m = ms.length + 1 := by omega
    rw [HZ.out] at how
    have HO : Hid (wr.ownsRow w0.heap.size 53 2 (.slice sa sn sp) zm.length (Pg.rowOf .i64 zm)) := how
    have hmI : ¬ ((ms.length : Int) + 1 ≤ (ms.length : Int)) := by omega
    clear how hlm hml hme
    go_wp2
    go_ret
    exact ⟨_, rfl, HO.out, hbr⟩
theorem box44f (w : World) (x0 x1 x2 x3 y0 y1 y2 y3 : Value) (t s : Nat) : ∃ W, (w.alloc (.cells #[x0, x1, x2, x3] t)).alloc (.cells #[y0, y1, y2, y3] s) = W ∧ Below w.heap.size w W ∧ W.heap.size = w.heap.size + 1 + 1 ∧
  (W.cell? ⟨w.heap.size, 0, none⟩ = some x0 ∧ W.cell? ⟨w.heap.size, 1, none⟩ = some x1 ∧ W.cell? ⟨w.heap.size, 2, none⟩ = some x2 ∧ W.cell? ⟨w.heap.size, 3, none⟩ = some x3) ∧
  (Free W ⟨w.heap.size, 0, none⟩ ∧ Free W ⟨w.heap.size, 1, none⟩ ∧ Free W ⟨w.heap.size, 2, none⟩ ∧ Free W ⟨w.heap.size, 3, none⟩) ∧
  Free W ⟨w.heap.size + 1, 0, none⟩ ∧ Free W ⟨w.heap.size + 1, 1, none⟩ ∧ Free W ⟨w.heap.size + 1, 2, none⟩ ∧ Free W ⟨w.heap.size + 1, 3, none⟩ := by
 obtain ⟨X, hX, hx, hsx, c0, c1, c2, c3, e0, e1, e2, e3⟩ := box4 w x0 x1 x2 x3 t
 obtain ⟨W, hW, hb, hs, _, _, _, _, f0, f1, f2, f3⟩ := box4 X y0 y1 y2 y3 s
 rw [hsx] at f0 f1 f2 f3 hs
 exact ⟨W, by rw [hX, hW], below_tr hx hb, hs, ⟨keep_cell hb c0, keep_cell hb c1, keep_cell hb c2, keep_cell hb c3⟩, ⟨e0.keep hb, e1.keep hb, e2.keep hb, e3.keep hb⟩, f0, f1, f2, f3⟩
set_option maxHeartbeats 2000000 in
theorem rprotect23_inval (vm vc vp : Value) (ms cs ps : List (Nat × Int)) (bs first n : Nat) (prot : Int) (w : World) (hsl : SlG w vm vc vp ms cs ps) (lp : ps.length ≤ 256) (hpn : ∀ y ∈ ps, y.1 < 4294967296) (h1 : first < 4294967296) (h2 : n < 4294967296) (hp : (gpagesOk first n && protOk prot) = false) :
  Calls Tryz.prog 36 #[.agg #[vm, vc, .int .u64 (bs : Int), vp], .int .u32 (first : Int), .int .u32 (n : Int), .int .i64 prot] w fun e w' => ∃ vm' vc' vp', e = .returned (.tuple #[.agg #[vm', vc', .int .u64 (bs : Int), vp'], .int .i64 22]) ∧ SlG w' vm' vc' vp' ms cs ps ∧ Below w.heap.size w w' := by
 obtain ⟨W, hW, hb, hsz, ⟨c0, c1, c2, c3⟩, ⟨h0, h1', h2', h3⟩, g0, g1, g2, g3⟩ := box44f w vm vc (.int .u64 (bs : Int)) vp (.slice none 0 0) (.slice none 0 0) (.int .u64 0) (.slice none 0 0) 29 29
 obtain ⟨am, nm, pm, rfl⟩ : ∃ a n p, vm = .slice a n p := by obtain ⟨a, p, h, _⟩ := hsl.1; exact ⟨_, _, _, h⟩
 obtain ⟨ac, nc, pc, rfl⟩ : ∃ a n p, vc = .slice a n p := by obtain ⟨a, p, h, _⟩ := hsl.2.1; exact ⟨_, _, _, h⟩
 obtain ⟨ap, pp, rfl, x1, x2, x4⟩ : ∃ ao cap, vp = .slice ao ps.length cap ∧ ps.length ≤ cap ∧ cap ≤ 9223372036854775807 ∧ ∀ i (h : i < ps.length), ∃ b o, ao = some ⟨b, o, none⟩ ∧ W.cell? ⟨b, o + i * 2, none⟩ = some (.int .u32 (ps[i].1 : Int)) ∧ W.cell? ⟨b, o + i * 2 + 1, none⟩ = some (.int .i64 ps[i].2) := by
  obtain ⟨ao, cap, e, q1, q2, _, q4⟩ := hsl.2.2.keep hb
  exact ⟨ao, cap, e, q1, q2, q4⟩
 have HX : Hid (∀ i (h : i < ps.length), ∃ b o, ap = some ⟨b, o, none⟩ ∧ W.cell? ⟨b, o + i * 2, none⟩ = some (.int .u32 (ps[i].1 : Int)) ∧ W.cell? ⟨b, o + i * 2 + 1, none⟩ = some (.int .i64 ps[i].2)) := x4
 have HSL : Hid (SlG w (.slice am nm pm) (.slice ac nc pc) (.slice ap ps.length pp) ms cs ps) := hsl
 have K42 := rwrong42 first n prot h1 h2 W
 rw [hp] at K42
 clear x4 hsl hpn hp hsz h0 h1' h2' h3
 have G0 := g0
 have G1 := g1
 have G2 := g2
 have G3 := g3
 go_enter Tryz.func36, Tryz.ntmps36
 go_wp2_with fail
 refine K42.mono ?_
 rintro e w0 ⟨rfl, h00⟩
 subst h00
 clear K42 g0 g1 g2 g3
 have q0 := G0.cell
 have q1 := G1.cell
 have q2 := G2.cell
 have q3 := G3.cell
 have q4 := G0.frozen
 have q5 := G1.frozen
 have q6 := G2.frozen
 have q7 := G3.frozen
 have HB : Hid (Below w.heap.size w ((((w0.setCell ⟨w.heap.size + 1, 0, none⟩ (.slice am nm pm)).setCell ⟨w.heap.size + 1, 1, none⟩ (.slice ac nc pc)).setCell ⟨w.heap.size + 1, 2, none⟩ (.int .u64 (bs : Int))).setCell ⟨w.heap.size + 1, 3, none⟩ (.slice ap ps.length pp))) := below_set (below_set (below_set (below_set hb (by simp) _) (by simp) _) (by simp) _) (by simp) _
 go_wp2
 (try simp only [Exit.inBlock, Exit.then])
 obtain ⟨r0, r1, r2, r3⟩ := resG4 w0 (w.heap.size + 1) (.slice am nm pm) (.slice ac nc pc) (.int .u64 (bs : Int)) (.slice ap ps.length pp) G0 G1 G2 G3
 refine bodyPost_ret (v := .tuple #[.agg #[(.slice am nm pm), (.slice ac nc pc), .int .u64 (bs : Int), (.slice ap ps.length pp)], .int .i64 22]) ?_ rfl ⟨_, _, _, rfl, HSL.out.keep HB.out, HB.out⟩
 rw [results_cell_tmp rfl]; simp [go_sem, r0, r1, r2, r3]
set_option maxHeartbeats 8000000 in
theorem rprotect23 (vm vc vp : Value) (ms cs ps : List (Nat × Int)) (bs first n : Nat) (prot : Int) (w : World) (hsl : SlG w vm vc vp ms cs ps) (lp : ps.length ≤ 256) (hpn : ∀ y ∈ ps, y.1 < 4294967296) (h1 : first < 4294967296) (h2 : n < 4294967296) (hs : Srt ps) (last : Nat) (hl : last = first + n - 1) (hp : (gpagesOk first n && protOk prot) = true) :
  Calls Tryz.prog 36 #[.agg #[vm, vc, .int .u64 (bs : Int), vp], .int .u32 (first : Int), .int .u32 (n : Int), .int .i64 prot] w fun e w' => ∃ vm' vc' vp', e = .returned (.tuple #[.agg #[vm', vc', .int .u64 (bs : Int), vp'], .int .i64 (if (mid ps first last).length = n then 0 else 12)]) ∧ SlG w' vm' vc' vp' ms cs (if (mid ps first last).length = n then protL first last prot ps else ps) ∧ Below w.heap.size w w' := by
 obtain ⟨W, hW, hb, hsz, ⟨c0, c1, c2, c3⟩, ⟨h0, h1', h2', h3⟩, g0, g1, g2, g3⟩ := box44f w vm vc (.int .u64 (bs : Int)) vp (.slice none 0 0) (.slice none 0 0) (.int .u64 0) (.slice none 0 0) 29 29
 obtain ⟨am, nm, pm, rfl⟩ : ∃ a n p, vm = .slice a n p := by obtain ⟨a, p, h, _⟩ := hsl.1; exact ⟨_, _, _, h⟩
 obtain ⟨ac, nc, pc, rfl⟩ : ∃ a n p, vc = .slice a n p := by obtain ⟨a, p, h, _⟩ := hsl.2.1; exact ⟨_, _, _, h⟩
 obtain ⟨ap, pp, rfl, x1, x2, x4⟩ : ∃ ao cap, vp = .slice ao ps.length cap ∧ ps.length ≤ cap ∧ cap ≤ 9223372036854775807 ∧ ∀ i (h : i < ps.length), ∃ b o, ao = some ⟨b, o, none⟩ ∧ W.cell? ⟨b, o + i * 2, none⟩ = some (.int .u32 (ps[i].1 : Int)) ∧ W.cell? ⟨b, o + i * 2 + 1, none⟩ = some (.int .i64 ps[i].2) := by
  obtain ⟨ao, cap, e, q1, q2, _, q4⟩ := hsl.2.2.keep hb
  exact ⟨ao, cap, e, q1, q2, q4⟩
 have HX : Hid (∀ i (h : i < ps.length), ∃ b o, ap = some ⟨b, o, none⟩ ∧ W.cell? ⟨b, o + i * 2, none⟩ = some (.int .u32 (ps[i].1 : Int)) ∧ W.cell? ⟨b, o + i * 2 + 1, none⟩ = some (.int .i64 ps[i].2)) := x4
 have HSL : Hid (SlG w (.slice am nm pm) (.slice ac nc pc) (.slice ap ps.length pp) ms cs ps) := hsl
 obtain ⟨i0, hi, hz0, hz1, hz2⟩ := info_parts Pg.info54
 have HI : Hid (Tryz.prog.info? 53 = some i0 ∧ i0.zero = some (.agg #[.int .u32 0, .int .i64 0]) ∧ i0.size = 2 ∧ i0.bytes = 16) := ⟨hi, hz0, hz1, hz2⟩
 clear hi hz0 hz1 hz2
 have hp1 : gpagesOk first n = true ∧ protOk prot = true := by simpa using hp
 have hpp : n ≠ 0 ∧ first + n ≤ 1048576 := by simpa [gpagesOk] using hp1.1
 have K42 := rwrong42 first n prot h1 h2 W
 rw [hp] at K42
 have HN : Hid (last = first + n - 1 ∧ n ≠ 0) := ⟨hl, hpp.1⟩
 have HRM : Hid (∀ y ∈ ps, y.1 < 4294967296) := hpn
 have hle : (mid ps first last).length ≤ n := srt_le (mid_srt hs first last) first n (fun x hx => by have := mid_mem.1 hx; omega)
 obtain ⟨zm, hzm⟩ : ∃ z, z = protL first last prot ps := ⟨_, rfl⟩
 obtain ⟨cd, hcd⟩ : ∃ c : Int, c = (if (mid ps first last).length = n then 0 else 12) := ⟨_, rfl⟩
 obtain ⟨zq, hzq⟩ : ∃ z, z = (if (mid ps first last).length = n then protL first last prot ps else ps) := ⟨_, rfl⟩
 rw [← hcd, ← hzq]
 have HZ : Hid (zm = protL first last prot ps) := hzm
 have HC : Hid (cd = (if (mid ps first last).length = n then 0 else 12) ∧ zq = (if (mid ps first last).length = n then zm else ps)) := ⟨hcd, by rw [hzm]; exact hzq⟩
 have HLE : Hid ((mid ps first last).length ≤ n) := hle
 have HWS : Hid (W.heap.size = w.heap.size + 2) := hsz
 clear x4 hsl hpn hp hp1 hl hzm hpp hsz hs hle h0 h1' h2' hcd hzq
 go_enter Tryz.func36, Tryz.ntmps36
 go_wp2_with fail
 refine K42.mono ?_
 rintro e w0 ⟨rfl, h00⟩
 subst h00
 clear K42
 go_wp2
 go_loopw [10, 11, 12] (fun s f i wr => ∃ m : Nat, m ≤ ps.length ∧ i = .int .i64 (m : Int) ∧ f = .int .u32 (((mid (ps.take m) first last).length : Nat) : Int) ∧ wr.ownsRow w0.heap.size 53 2 s (protL first last prot (ps.take m)).length (Pg.rowOf .i64 (protL first last prot (ps.take m))) ∧ Below w0.heap.size w0 wr) (fun _ _ i _ => ps.length - (intOf i).toNat)
 case atStart => exact ⟨0, Nat.zero_le _, rfl, rfl, World.ownsRow_nil _ _ _ _, Below.refl _ _⟩
 case round =>
  obtain ⟨m, hmle, rfl, rfl, how, hbr⟩ := hrel
  obtain ⟨sa, sn, sp, rfl⟩ := own_shape how
  have hlm : (protL first last prot (ps.take m)).length ≤ m := by rw [protL, List.length_map]; simp; omega
  have hfm : (mid (ps.take m) first last).length ≤ m := Nat.le_trans (List.length_filter_le _ _) (by simp; omega)
  have e0 := keep_cell hbr c0
  have e1 := keep_cell hbr c1
  have e2 := keep_cell hbr c2
  have e3 := keep_cell hbr c3
  have hWr := hbr.size
  by_cases hml : m < ps.length
  ·obtain ⟨bb, o, rfl, D0, D1⟩ := HX.out m hml
   have d0 := keep_cell hbr D0
   have d1 := keep_cell hbr D1
   have HSN := protL_snoc first last prot ps m hml
   have HFN := midL_snoc first last ps m hml
   obtain ⟨p, hp⟩ : ∃ p, p = ps[m].1 := ⟨_, rfl⟩
   obtain ⟨r, hr⟩ : ∃ r, r = ps[m].2 := ⟨_, rfl⟩
   have hx : ps[m] = (p, r) := by rw [hp, hr]
   have hpl := HRM.out _ (List.getElem_mem hml)
   rw [hx] at HSN hpl HFN
   simp only [protX] at HSN hpl HFN
   rw [← hp] at d0
   rw [← hr] at d1
   clear hp hr hx D0 D1
   generalize protL first last prot (ps.take m) = xs at how HSN hlm
   generalize (mid (ps.take m) first last).length = fm at HFN hfm ⊢
   obtain ⟨W2, hW2, hb2, hsz2, m0, m1, mf0, mf1⟩ := box2 wr (.int .u32 (p : Int)) (.int .i64 r) 53
   have hnb : (Value.slice sa sn sp).ownBlock ≠ some wr.heap.size := fun e => absurd (how.lt _ e).2 (Nat.lt_irrefl _)
   have how2' := own_keep how hb2
   have hbr2 := below_tr hbr hb2
   clear hsz2
   by_cases hin : first ≤ p ∧ p ≤ last
   ·obtain ⟨q, hq⟩ : ∃ q, q = prot := ⟨_, rfl⟩
    have HSN2 : Hid (protL first last prot (ps.take (m + 1)) = xs ++ [(p, q)]) := by show _ = _; rw [HSN, if_pos hin, hq]
    have HFN2 : Hid ((mid (ps.take (m + 1)) first last).length = fm + 1) := by show _ = _; rw [HFN, if_pos hin]
    have n1 : first ≤ p := by omega
    obtain ⟨d, hd, hd2⟩ : ∃ d : Nat, IntKind.u32.wrap ((p : Int) - (first : Int)) = (d : Int) ∧ d < n := ⟨p - first, by rw [IntKind.wrap_u32]; omega, by have := HN.out; omega⟩
    have hd' : ((p : Int) - (first : Int)) % 4294967296 = (d : Int) := by rw [IntKind.wrap_u32] at hd; omega
    obtain ⟨W3, hW3⟩ : ∃ W3, W2.setCell ⟨wr.heap.size, 1, none⟩ (.int .i64 prot) = W3 := ⟨_, rfl⟩
    have k0 : W3.cell? ⟨wr.heap.size, 0, none⟩ = some (.int .u32 (p : Int)) := by rw [← hW3, World.cell?_setCell_other _ _ _ _ (by simp)]; exact m0
    have k1 : W3.cell? ⟨wr.heap.size, 1, none⟩ = some (.int .i64 prot) := by rw [← hW3]; exact World.cell?_setCell_same _ _ _ m1
    have how3 : W3.ownsRow w0.heap.size 53 2 (.slice sa sn sp) xs.length (Pg.rowOf .i64 xs) := by rw [← hW3]; exact ownsRow_setCell_other how2' hnb _
    have hb3 : Below w0.heap.size w0 W3 := by rw [← hW3]; exact below_set hbr2 (by simp; omega) _
    have hW3z := hb3.size
    have yf : IntKind.u32.wrap ((fm : Int) + 1) = ((fm + 1 : Nat) : Int) := by rw [IntKind.wrap_u32]; omega
    have yf' : ((fm : Int) + 1) % 4294967296 = ((fm + 1 : Nat) : Int) := by omega
    subst hq
    clear hin hnb how how2' hbr2 hb2 hbr
    go_wp2_with (at_builtin; refine wpList_append_own _ rfl (.tmp 47) (.tmp 49) 27 rfl w0.heap.size 53 i0 _ 2 16 Tryz.underlying27 HI.out.1 HI.out.2.1 HI.out.2.2.1 HI.out.2.2.2 rfl (by decide) _ _ _ rfl (own_alloc how3 _) ⟨W3.heap.size, 0, none⟩ 1 1 [.int .u32 (p : Int), .int .i64 q] rfl rfl (cells2 _ _ _ _) (Pg.one2 _ _ _) (by unfold maxLen; omega) (by omega) (by simp; omega) ?_; intro sv w2 how2 hgr2 _; obtain ⟨sa2, sn2, sp2, rfl⟩ := own_shape how2; have R2 := Pg.app_own how2; have B2 : Below w0.heap.size w0 w2 := app_below _ hb3 hW3z hgr2 (own_ge how3); have S2 := B2.size; have HR2 : Hid (w2.ownsRow w0.heap.size 53 2 (.slice sa2 sn2 sp2) (xs ++ [(p, q)]).length (Pg.rowOf .i64 (xs ++ [(p, q)]))) := R2; have HB2 : Hid (Below w0.heap.size w0 w2) := B2; clear R2 B2 how2 hgr2 S2)
    go_roundw
    case rel => exact ⟨m + 1, by omega, by go_num, by rw [HFN2.out]; go_num, by rw [HSN2.out]; exact HR2.out, HB2.out⟩
    case measure => simp [intOf]; omega
   ·obtain ⟨q, hq⟩ : ∃ q, q = r := ⟨_, rfl⟩
    have HSN2 : Hid (protL first last prot (ps.take (m + 1)) = xs ++ [(p, q)]) := by show _ = _; rw [HSN, if_neg hin, hq]
    have HFN2 : Hid ((mid (ps.take (m + 1)) first last).length = fm) := by show _ = _; rw [HFN, if_neg hin, Nat.add_zero]
    obtain ⟨W3, hW3⟩ : ∃ W3, W3 = W2 := ⟨_, rfl⟩
    subst hW3
    have how3 := how2'
    have hb3 : Below w0.heap.size w0 W3 := hbr2
    have hW3z := hb3.size
    subst hq
    by_cases hpp : first ≤ p
    ·have n1 : first ≤ p := hpp
     obtain ⟨d, hd, hd2⟩ : ∃ d : Nat, IntKind.u32.wrap ((p : Int) - (first : Int)) = (d : Int) ∧ ¬ d < n := ⟨p - first, by rw [IntKind.wrap_u32]; omega, by have := HN.out; omega⟩
     have hd' : ((p : Int) - (first : Int)) % 4294967296 = (d : Int) := by rw [IntKind.wrap_u32] at hd; omega
     clear hin hnb how how2' hbr2 hb2 hbr
     go_wp2_with (at_builtin; refine wpList_append_own _ rfl (.tmp 47) (.tmp 49) 27 rfl w0.heap.size 53 i0 _ 2 16 Tryz.underlying27 HI.out.1 HI.out.2.1 HI.out.2.2.1 HI.out.2.2.2 rfl (by decide) _ _ _ rfl (own_alloc how3 _) ⟨W3.heap.size, 0, none⟩ 1 1 [.int .u32 (p : Int), .int .i64 q] rfl rfl (cells2 _ _ _ _) (Pg.one2 _ _ _) (by unfold maxLen; omega) (by omega) (by simp; omega) ?_; intro sv w2 how2 hgr2 _; obtain ⟨sa2, sn2, sp2, rfl⟩ := own_shape how2; have R2 := Pg.app_own how2; have B2 : Below w0.heap.size w0 w2 := app_below _ hb3 hW3z hgr2 (own_ge how3); have S2 := B2.size; have HR2 : Hid (w2.ownsRow w0.heap.size 53 2 (.slice sa2 sn2 sp2) (xs ++ [(p, q)]).length (Pg.rowOf .i64 (xs ++ [(p, q)]))) := R2; have HB2 : Hid (Below w0.heap.size w0 w2) := B2; clear R2 B2 how2 hgr2 S2)
     go_roundw
     case rel => exact ⟨m + 1, by omega, by go_num, by rw [HFN2.out], by rw [HSN2.out]; exact HR2.out, HB2.out⟩
     case measure => simp [intOf]; omega
    ·have n1 : ¬ first ≤ p := hpp
     clear hin hnb how how2' hbr2 hb2 hbr
     go_wp2_with (at_builtin; refine wpList_append_own _ rfl (.tmp 47) (.tmp 49) 27 rfl w0.heap.size 53 i0 _ 2 16 Tryz.underlying27 HI.out.1 HI.out.2.1 HI.out.2.2.1 HI.out.2.2.2 rfl (by decide) _ _ _ rfl (own_alloc how3 _) ⟨W3.heap.size, 0, none⟩ 1 1 [.int .u32 (p : Int), .int .i64 q] rfl rfl (cells2 _ _ _ _) (Pg.one2 _ _ _) (by unfold maxLen; omega) (by omega) (by simp; omega) ?_; intro sv w2 how2 hgr2 _; obtain ⟨sa2, sn2, sp2, rfl⟩ := own_shape how2; have R2 := Pg.app_own how2; have B2 : Below w0.heap.size w0 w2 := app_below _ hb3 hW3z hgr2 (own_ge how3); have S2 := B2.size; have HR2 : Hid (w2.ownsRow w0.heap.size 53 2 (.slice sa2 sn2 sp2) (xs ++ [(p, q)]).length (Pg.rowOf .i64 (xs ++ [(p, q)]))) := R2; have HB2 : Hid (Below w0.heap.size w0 w2) := B2; clear R2 B2 how2 hgr2 S2)
     go_roundw
     case rel => exact ⟨m + 1, by omega, by go_num, by rw [HFN2.out], by rw [HSN2.out]; exact HR2.out, HB2.out⟩
     case measure => simp [intOf]; omega
  ·obtain rfl : m = ps.length := by omega
   rw [List.take_length] at how ⊢
   rw [← HZ.out] at how
   have G0 := g0.keep hbr
   have G1 := g1.keep hbr
   have G2 := g2.keep hbr
   have G3 := g3.keep hbr
   have F3 := h3.keep hbr
   have hbw := below_tr hb hbr
   have hws := HWS.out
   have hle := HLE.out
   have hC := HC.out
   generalize (mid ps first last).length = fm at hle hC ⊢
   by_cases hok : fm = n
   ·subst hok
    rw [if_pos rfl, if_pos rfl] at hC
    have HC2 : Hid (cd = 0 ∧ zq = zm) := hC
    clear hC
    have n1 : ¬ fm < fm := Nat.lt_irrefl _
    obtain ⟨WA, hWA⟩ : ∃ WA, wr.setCell ⟨w.heap.size, 3, none⟩ (.slice sa sn sp) = WA := ⟨_, rfl⟩
    have u3 : WA.cell? ⟨w.heap.size, 3, none⟩ = some (.slice sa sn sp) := by rw [← hWA]; exact World.cell?_setCell_same _ _ _ F3.cell
    have u0 : WA.cell? ⟨w.heap.size, 0, none⟩ = some (.slice am nm pm) := by rw [← hWA, World.cell?_setCell_other _ _ _ _ (by simp)]; exact e0
    have u1 : WA.cell? ⟨w.heap.size, 1, none⟩ = some (.slice ac nc pc) := by rw [← hWA, World.cell?_setCell_other _ _ _ _ (by simp)]; exact e1
    have u2 : WA.cell? ⟨w.heap.size, 2, none⟩ = some (.int .u64 (bs : Int)) := by rw [← hWA, World.cell?_setCell_other _ _ _ _ (by simp)]; exact e2
    have qf := F3.frozen
    have qc := F3.cell
    have G0 : Free WA ⟨w.heap.size + 1, 0, none⟩ := by rw [← hWA]; exact G0.set _ _
    have G1 : Free WA ⟨w.heap.size + 1, 1, none⟩ := by rw [← hWA]; exact G1.set _ _
    have G2 : Free WA ⟨w.heap.size + 1, 2, none⟩ := by rw [← hWA]; exact G2.set _ _
    have G3 : Free WA ⟨w.heap.size + 1, 3, none⟩ := by rw [← hWA]; exact G3.set _ _
    have hbA : Below w.heap.size w WA := by rw [← hWA]; exact below_set hbw (by simp) _
    have HO : Hid (((((WA.setCell ⟨w.heap.size + 1, 0, none⟩ (.slice am nm pm)).setCell ⟨w.heap.size + 1, 1, none⟩ (.slice ac nc pc)).setCell ⟨w.heap.size + 1, 2, none⟩ (.int .u64 (bs : Int))).setCell ⟨w.heap.size + 1, 3, none⟩ (.slice sa sn sp)).ownsRow w0.heap.size 53 2 (.slice sa sn sp) zm.length (Pg.rowOf .i64 zm)) := by
     rw [← hWA]
     exact ownsRow_setCell_below (ownsRow_setCell_below (ownsRow_setCell_below (ownsRow_setCell_below (ownsRow_setCell_below how (by simp; omega) _) (by simp; omega) _) (by simp; omega) _) (by simp; omega) _) (by simp; omega) _
    clear how hws hle hlm hml hmle
    have q0 := G0.cell
    have q1 := G1.cell
    have q2 := G2.cell
    have q3 := G3.cell
    have q4 := G0.frozen
    have q5 := G1.frozen
    have q6 := G2.frozen
    have q7 := G3.frozen
    have HB : Hid (Below w.heap.size w ((((WA.setCell ⟨w.heap.size + 1, 0, none⟩ (.slice am nm pm)).setCell ⟨w.heap.size + 1, 1, none⟩ (.slice ac nc pc)).setCell ⟨w.heap.size + 1, 2, none⟩ (.int .u64 (bs : Int))).setCell ⟨w.heap.size + 1, 3, none⟩ (.slice sa sn sp))) := below_set (below_set (below_set (below_set hbA (by simp) _) (by simp) _) (by simp) _) (by simp) _
    go_wp2
    (try simp only [Exit.inBlock, Exit.then])
    obtain ⟨r0, r1, r2, r3⟩ := resG4 WA (w.heap.size + 1) (.slice am nm pm) (.slice ac nc pc) (.int .u64 (bs : Int)) (.slice sa sn sp) G0 G1 G2 G3
    refine bodyPost_ret (v := .tuple #[.agg #[(.slice am nm pm), (.slice ac nc pc), .int .u64 (bs : Int), (.slice sa sn sp)], .int .i64 0]) ?_ rfl ⟨_, _, _, by rw [HC2.out.1], by rw [HC2.out.2]; exact ⟨HSL.out.1.keep HB.out, HSL.out.2.1.keep HB.out, Pg.own_sl HO.out⟩, HB.out⟩
    rw [results_cell_tmp rfl]; simp [go_sem, r0, r1, r2, r3]
   ·rw [if_neg hok, if_neg hok] at hC
    have HC2 : Hid (cd = 12 ∧ zq = ps) := hC
    clear hC
    have n1 : fm < n := by omega
    clear how hws hle hlm hml hmle hok
    have q0 := G0.cell
    have q1 := G1.cell
    have q2 := G2.cell
    have q3 := G3.cell
    have q4 := G0.frozen
    have q5 := G1.frozen
    have q6 := G2.frozen
    have q7 := G3.frozen
    have HB : Hid (Below w.heap.size w ((((wr.setCell ⟨w.heap.size + 1, 0, none⟩ (.slice am nm pm)).setCell ⟨w.heap.size + 1, 1, none⟩ (.slice ac nc pc)).setCell ⟨w.heap.size + 1, 2, none⟩ (.int .u64 (bs : Int))).setCell ⟨w.heap.size + 1, 3, none⟩ (.slice ap ps.length pp))) := below_set (below_set (below_set (below_set hbw (by simp) _) (by simp) _) (by simp) _) (by simp) _
    go_wp2
    (try simp only [Exit.inBlock, Exit.then])
    obtain ⟨r0, r1, r2, r3⟩ := resG4 wr (w.heap.size + 1) (.slice am nm pm) (.slice ac nc pc) (.int .u64 (bs : Int)) (.slice ap ps.length pp) G0 G1 G2 G3
    refine bodyPost_ret (v := .tuple #[.agg #[(.slice am nm pm), (.slice ac nc pc), .int .u64 (bs : Int), (.slice ap ps.length pp)], .int .i64 12]) ?_ rfl ⟨_, _, _, by rw [HC2.out.1], by rw [HC2.out.2]; exact HSL.out.keep HB.out, HB.out⟩
    rw [results_cell_tmp rfl]; simp [go_sem, r0, r1, r2, r3]
end Go.Proofs.YtkpmkgkfpikpfaaGreat
