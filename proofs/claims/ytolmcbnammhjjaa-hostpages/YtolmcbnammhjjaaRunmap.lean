/- What is proved here: the document's Unmap. -/
import Derived.Test.YtolmcbnammhjjaaApp
import Derived.Test.YtolmcbnammhjjaaOwn2
import Derived.Test.YtolmcbnammhjjaaSmall
import Derived.Test.YtolmcbnammhjjaaPlain
namespace Go.Proofs.Ytolmcbnammhjjaa
open Go.RowKit
set_option linter.unusedVariables false
/-- Pages that are not among n from page on. -/
def outM (page last : Nat) (xs : List (Nat × Int)) : List (Nat × Int) := xs.filter (fun x => decide (x.1 < page ∨ last < x.1))
/-- Cells that are not on these. -/
def outC (page last : Nat) (xs : List (Nat × Int)) : List (Nat × Int) := xs.filter (fun x => decide (x.1 / 16384 < page ∨ last < x.1 / 16384))
theorem outM_snoc (page last : Nat) (xs : List (Nat × Int)) (m : Nat) (h : m < xs.length) : outM page last (xs.take (m + 1)) = outM page last (xs.take m) ++ (if xs[m].1 < page ∨ last < xs[m].1 then [xs[m]] else []) := by
  rw [outM, List.take_add_one, List.getElem?_eq_getElem h, List.filter_append]
  by_cases c : xs[m].1 < page ∨ last < xs[m].1 <;> simp [outM, c]
theorem outC_snoc (page last : Nat) (xs : List (Nat × Int)) (m : Nat) (h : m < xs.length) : outC page last (xs.take (m + 1)) = outC page last (xs.take m) ++ (if xs[m].1 / 16384 < page ∨ last < xs[m].1 / 16384 then [xs[m]] else []) := by
  rw [outC, List.take_add_one, List.getElem?_eq_getElem h, List.filter_append]
  by_cases c : xs[m].1 / 16384 < page ∨ last < xs[m].1 / 16384 <;> simp [outC, c]
theorem outM_eq {xs : List (Nat × Int)} (h : Srt xs) {page last : Nat} (hl : page ≤ last) : outM page last xs = lo xs page ++ hi xs last := by
  have e := congrArg (outM page last) (parts xs h page last hl)
  rw [e]
  have e1 : (lo xs page).filter (fun x => decide (x.1 < page ∨ last < x.1)) = lo xs page := List.filter_eq_self.2 (fun x hx => by have := (lo_mem.1 hx).2; simp; omega)
  have e2 : (mid xs page last).filter (fun x => decide (x.1 < page ∨ last < x.1)) = [] := List.filter_eq_nil_iff.2 (fun x hx => by have := (mid_mem.1 hx).2; simp; omega)
  have e3 : (hi xs last).filter (fun x => decide (x.1 < page ∨ last < x.1)) = hi xs last := List.filter_eq_self.2 (fun x hx => by have := (hi_mem.1 hx).2; simp; omega)
  rw [outM, List.filter_append, List.filter_append, e1, e2, e3, List.append_nil]
theorem outC_eq {xs : List (Nat × Int)} (h : Srt xs) {page last : Nat} (hl : page ≤ last) : outC page last xs = lo xs (page * 16384) ++ hi xs (last * 16384 + 16383) := by
  have e := congrArg (outC page last) (parts xs h (page * 16384) (last * 16384 + 16383) (by omega))
  rw [e]
  have e1 : (lo xs (page * 16384)).filter (fun x => decide (x.1 / 16384 < page ∨ last < x.1 / 16384)) = lo xs (page * 16384) := List.filter_eq_self.2 (fun x hx => by have := (lo_mem.1 hx).2; simp; omega)
  have e2 : (mid xs (page * 16384) (last * 16384 + 16383)).filter (fun x => decide (x.1 / 16384 < page ∨ last < x.1 / 16384)) = [] := List.filter_eq_nil_iff.2 (fun x hx => by have := (mid_mem.1 hx).2; simp; omega)
  have e3 : (hi xs (last * 16384 + 16383)).filter (fun x => decide (x.1 / 16384 < page ∨ last < x.1 / 16384)) = hi xs (last * 16384 + 16383) := List.filter_eq_self.2 (fun x hx => by have := (hi_mem.1 hx).2; simp; omega)
  rw [outC, List.filter_append, List.filter_append, e1, e2, e3, List.append_nil]
set_option maxHeartbeats 4000000 in
set_option maxRecDepth 100000 in
theorem runmap17 (vm vc : Value) (ms cs : List (Nat × Int)) (page n last : Nat) (w : World) (hm : Sl .i64 w vm ms) (hc : Sl .u64 w vc cs) (lm : ms.length ≤ 536870912) (lc : cs.length ≤ 536870912) (hrm : ∀ y ∈ ms, y.1 < 18446744073709551616) (hrc : ∀ y ∈ cs, y.1 < 18446744073709551616) (hp : pagesOk page n = true) (hl : last = page + n - 1) :
    Calls Try.prog 17 #[.agg #[vm, vc], .int .u64 (page : Int), .int .u64 (n : Int)] w fun e w' => ∃ vm' vc', e = .returned (.tuple #[.agg #[vm', vc'], .int .i64 0]) ∧ OwnH w.heap.size w' vm' vc' (outM page last ms) (outC page last cs) ∧ Below w.heap.size w w' := by
  obtain ⟨W, hW, hb, hsz, c0, c1, _, _, g0, g1⟩ := box2b w vm vc (.slice none 0 0) (.slice none 0 0) 25 25
  have hWsz : W.heap.size = w.heap.size + 2 := by omega
  obtain ⟨am, pm, rfl, x1, x2, x4⟩ : ∃ ao cap, vm = .slice ao ms.length cap ∧ ms.length ≤ cap ∧ cap ≤ 9223372036854775807 ∧ ∀ i (h : i < ms.length), ∃ b o, ao = some ⟨b, o, none⟩ ∧ W.cell? ⟨b, o + i * 2, none⟩ = some (.int .u64 (ms[i].1 : Int)) ∧ W.cell? ⟨b, o + i * 2 + 1, none⟩ = some (.int .i64 ms[i].2) := by
    obtain ⟨ao, cap, e, q1, q2, _, q4⟩ := hm.keep hb
    exact ⟨ao, cap, e, q1, q2, q4⟩
  obtain ⟨ac, pc, rfl, z1, z2, z4⟩ : ∃ ao cap, vc = .slice ao cs.length cap ∧ cs.length ≤ cap ∧ cap ≤ 9223372036854775807 ∧ ∀ i (h : i < cs.length), ∃ b o, ao = some ⟨b, o, none⟩ ∧ W.cell? ⟨b, o + i * 2, none⟩ = some (.int .u64 (cs[i].1 : Int)) ∧ W.cell? ⟨b, o + i * 2 + 1, none⟩ = some (.int .u64 cs[i].2) := by
    obtain ⟨ao, cap, e, q1, q2, _, q4⟩ := hc.keep hb
    exact ⟨ao, cap, e, q1, q2, q4⟩
  have HXM : Hid (∀ i (h : i < ms.length), ∃ b o, am = some ⟨b, o, none⟩ ∧ W.cell? ⟨b, o + i * 2, none⟩ = some (.int .u64 (ms[i].1 : Int)) ∧ W.cell? ⟨b, o + i * 2 + 1, none⟩ = some (.int .i64 ms[i].2)) := x4
  have HXC : Hid (∀ i (h : i < cs.length), ∃ b o, ac = some ⟨b, o, none⟩ ∧ W.cell? ⟨b, o + i * 2, none⟩ = some (.int .u64 (cs[i].1 : Int)) ∧ W.cell? ⟨b, o + i * 2 + 1, none⟩ = some (.int .u64 cs[i].2)) := z4
  obtain ⟨i0, hi, hz0, hz1, hz2⟩ := info_parts info54
  have HI : Hid (Try.prog.info? 54 = some i0 ∧ i0.zero = some (.agg #[.int .u64 0, .int .i64 0]) ∧ i0.size = 2 ∧ i0.bytes = 16) := ⟨hi, hz0, hz1, hz2⟩
  clear hi hz0 hz1 hz2
  obtain ⟨j0, hi, hz0, hz1, hz2⟩ := info_parts info58
  have HJ : Hid (Try.prog.info? 58 = some j0 ∧ j0.zero = some (.agg #[.int .u64 0, .int .u64 0]) ∧ j0.size = 2 ∧ j0.bytes = 16) := ⟨hi, hz0, hz1, hz2⟩
  clear hi hz0 hz1 hz2
  have hpp : n ≠ 0 ∧ page + n ≤ 1125899906842624 := by simpa [pagesOk] using hp
  have K41 := wrong41 page n 0 (by omega) (by omega) W
  rw [hp, show protOk 0 = true by decide] at K41
  have HN : Hid (last = page + n - 1 ∧ n ≠ 0) := ⟨hl, hpp.1⟩
  have HRM : Hid (∀ y ∈ ms, y.1 < 18446744073709551616) := hrm
  have HRC : Hid (∀ y ∈ cs, y.1 < 18446744073709551616) := hrc
  obtain ⟨zm, hzm⟩ : ∃ z, z = outM page last ms := ⟨_, rfl⟩
  obtain ⟨zc, hzc⟩ : ∃ z, z = outC page last cs := ⟨_, rfl⟩
  rw [← hzm, ← hzc]
  have HZ : Hid (zm = outM page last ms ∧ zc = outC page last cs) := ⟨hzm, hzc⟩
  have HWS : Hid (W.heap.size = w.heap.size + 2) := hWsz
  clear x4 z4 hm hc hrm hrc hp hl hzm hzc hpp hsz hWsz
  go_enter Try.func17, Try.ntmps17
  go_wp2_with fail
  refine K41.mono ?_
  rintro e w0 ⟨rfl, h0⟩
  subst h0
  clear K41
  go_wp2
  go_loopw [8, 10] (fun s i wr => ∃ m : Nat, m ≤ ms.length ∧ i = .int .i64 (m : Int) ∧ wr.ownsRow w0.heap.size 54 2 s (outM page last (ms.take m)).length (rowOf .i64 (outM page last (ms.take m))) ∧ Below w0.heap.size w0 wr) (fun _ i _ => ms.length - (intOf i).toNat)
  case atStart => exact ⟨0, Nat.zero_le _, rfl, World.ownsRow_nil _ _ _ _, Below.refl _ _⟩
  case round =>
    obtain ⟨m, hmle, rfl, how, hbr⟩ := hrel
    obtain ⟨sa, sn, sp, rfl⟩ := own_shape how
    have hlm : (outM page last (ms.take m)).length ≤ m := Nat.le_trans (List.length_filter_le _ _) (by simp; omega)
    have e0 := keep_cell hbr c0
    have e1 := keep_cell hbr c1
    have hWr := hbr.size
    by_cases hml : m < ms.length
    · obtain ⟨bb, o, rfl, D0, D1⟩ := HXM.out m hml
      have d0 := keep_cell hbr D0
      have d1 := keep_cell hbr D1
      have HSN := outM_snoc page last ms m hml
      obtain ⟨p, hp⟩ : ∃ p, p = ms[m].1 := ⟨_, rfl⟩
      obtain ⟨r, hr⟩ : ∃ r, r = ms[m].2 := ⟨_, rfl⟩
      have hx : ms[m] = (p, r) := by rw [hp, hr]
      have hpl := HRM.out _ (List.getElem_mem hml)
      rw [hx] at HSN hpl
      simp only at HSN hpl
      rw [← hp] at d0
      rw [← hr] at d1
      clear hp hr hx
      generalize outM page last (ms.take m) = xs at how HSN hlm
      by_cases k1 : p < page
      · have HSN : Hid (outM page last (ms.take (m + 1)) = xs ++ [(p, r)]) := by show _ = _; rw [HSN, if_pos (Or.inl k1)]
        have n1 : (p : Int) < (page : Int) := by omega
        clear D0 D1 n1
        have n1 : decide ((p : Int) < (page : Int)) = true := decide_eq_true (by omega)
        go_wp2_with (at_builtin; refine wpList_append_own _ rfl (.tmp 41) (.tmp 47) 22 rfl w0.heap.size 54 i0 _ 2 16 Try.underlying22 HI.out.1 HI.out.2.1 HI.out.2.2.1 HI.out.2.2.2 rfl (by decide) _ _ _ rfl (own_alloc how _) ⟨wr.heap.size, 0, none⟩ 1 1 [.int .u64 (p : Int), .int .i64 r] rfl rfl (cells2 _ _ _ _) (one2 _ _ _) (by unfold maxLen; omega) (by omega) (by simp; omega) ?_; intro sv w2 how2 hgr2 _; obtain ⟨sa2, sn2, sp2, rfl⟩ := own_shape how2; have R2 := app_own how2; have B2 : Below w0.heap.size w0 w2 := app_below _ hbr hWr hgr2 (own_ge how); have S2 := B2.size; have y20 := keep_cell (B2) c0; have y21 := keep_cell (B2) c1; have HR2 : Hid (w2.ownsRow w0.heap.size 54 2 (.slice sa2 sn2 sp2) (xs ++ [(p, r)]).length (rowOf .i64 (xs ++ [(p, r)]))) := R2; have HB2 : Hid (Below w0.heap.size w0 w2) := B2; clear R2 B2 how2 hgr2 S2)
        go_roundw
        case rel => exact ⟨m + 1, by omega, by go_num, by rw [HSN.out]; exact HR2.out, HB2.out⟩
        case measure => simp [intOf]; omega
      · have n1 : ¬ (p : Int) < (page : Int) := by omega
        obtain ⟨d, hd, hd2⟩ : ∃ d : Nat, IntKind.u64.wrap ((p : Int) - (page : Int)) = (d : Int) ∧ d = p - page := ⟨p - page, by rw [IntKind.wrap_u64]; omega, rfl⟩
        by_cases k2 : last < p
        · have HSN : Hid (outM page last (ms.take (m + 1)) = xs ++ [(p, r)]) := by show _ = _; rw [HSN, if_pos (Or.inr k2)]
          have n2 : (n : Int) ≤ (d : Int) := by have := HN.out; omega
          have n2' : n ≤ d := by omega
          clear k2 D0 D1 hd2
          go_wp2_with (at_builtin; refine wpList_append_own _ rfl (.tmp 41) (.tmp 47) 22 rfl w0.heap.size 54 i0 _ 2 16 Try.underlying22 HI.out.1 HI.out.2.1 HI.out.2.2.1 HI.out.2.2.2 rfl (by decide) _ _ _ rfl (own_alloc how _) ⟨wr.heap.size, 0, none⟩ 1 1 [.int .u64 (p : Int), .int .i64 r] rfl rfl (cells2 _ _ _ _) (one2 _ _ _) (by unfold maxLen; omega) (by omega) (by simp; omega) ?_; intro sv w2 how2 hgr2 _; obtain ⟨sa2, sn2, sp2, rfl⟩ := own_shape how2; have R2 := app_own how2; have B2 : Below w0.heap.size w0 w2 := app_below _ hbr hWr hgr2 (own_ge how); have S2 := B2.size; have y20 := keep_cell (B2) c0; have y21 := keep_cell (B2) c1; have HR2 : Hid (w2.ownsRow w0.heap.size 54 2 (.slice sa2 sn2 sp2) (xs ++ [(p, r)]).length (rowOf .i64 (xs ++ [(p, r)]))) := R2; have HB2 : Hid (Below w0.heap.size w0 w2) := B2; clear R2 B2 how2 hgr2 S2)
          go_roundw
          case rel => exact ⟨m + 1, by omega, by go_num, by rw [HSN.out]; exact HR2.out, HB2.out⟩
          case measure => simp [intOf]; omega
        · have HSN : Hid (outM page last (ms.take (m + 1)) = xs) := by show _ = _; rw [HSN, if_neg (by omega), List.append_nil]
          have n2 : ¬ (n : Int) ≤ (d : Int) := by have := HN.out; omega
          have HOW : Hid (wr.ownsRow w0.heap.size 54 2 (.slice sa sn sp) xs.length (rowOf .i64 xs)) := how
          have HBR : Hid (Below w0.heap.size w0 wr) := hbr
          have n2' : ¬ n ≤ d := by omega
          clear k2 D0 D1 hd2 how hbr hWr
          go_wp2
          go_roundw
          case rel => exact ⟨m + 1, by omega, by go_num, by rw [HSN.out]; exact HOW.out, HBR.out⟩
          case measure => simp [intOf]; omega
    · obtain rfl : m = ms.length := by omega
      rw [List.take_length] at how
      clear hlm

      rw [← HZ.out.1] at how
      have hbW1 := hbr
      have how1 := how
      clear how hbr e0 e1 hmle hml
      obtain ⟨w1, hw1⟩ : ∃ x, x = wr := ⟨_, rfl⟩
      rw [← hw1] at hWr hbW1 how1 ⊢
      clear hw1
      have e0 := keep_cell hbW1 c0
      have e1 := keep_cell hbW1 c1
      go_wp2
      go_loopw [9, 12] (fun s i wr => ∃ m : Nat, m ≤ cs.length ∧ i = .int .i64 (m : Int) ∧ wr.ownsRow w1.heap.size 58 2 s (outC page last (cs.take m)).length (rowOf .u64 (outC page last (cs.take m))) ∧ Below w1.heap.size w1 wr) (fun _ i _ => cs.length - (intOf i).toNat)
      case atStart => exact ⟨0, Nat.zero_le _, rfl, World.ownsRow_nil _ _ _ _, Below.refl _ _⟩
      case round =>
        clear e0 e1
        have hW1 := hWr
        clear hWr
        obtain ⟨m, hmle, rfl, how, hbr⟩ := hrel
        obtain ⟨ta, tn, tp, rfl⟩ := own_shape how
        have hlm : (outC page last (cs.take m)).length ≤ m := Nat.le_trans (List.length_filter_le _ _) (by simp; omega)
        have e0 := keep_cell (below_tr hbW1 hbr) c0
        have e1 := keep_cell (below_tr hbW1 hbr) c1
        have hWr := hbr.size
        by_cases hml : m < cs.length
        · obtain ⟨bb, o, rfl, D0, D1⟩ := HXC.out m hml
          have d0 := keep_cell (below_tr hbW1 hbr) D0
          have d1 := keep_cell (below_tr hbW1 hbr) D1
          have HSN := outC_snoc page last cs m hml
          obtain ⟨p, hp⟩ : ∃ p, p = cs[m].1 := ⟨_, rfl⟩
          obtain ⟨r, hr⟩ : ∃ r, r = cs[m].2 := ⟨_, rfl⟩
          have hx : cs[m] = (p, r) := by rw [hp, hr]
          have hpl := HRC.out _ (List.getElem_mem hml)
          rw [hx] at HSN hpl
          simp only at HSN hpl
          rw [← hp] at d0
          rw [← hr] at d1
          clear hp hr hx
          obtain ⟨pg, hpg⟩ : ∃ t, t = p / 16384 := ⟨_, rfl⟩
          have y1 : IntKind.u64.wrap (pg : Int) = (pg : Int) := by rw [IntKind.wrap_u64]; omega
          rw [← hpg] at HSN
          have y1' : (p : Int) / 16384 = (pg : Int) := by omega
          have hpgl : pg < 18446744073709551616 := by omega
          clear hpg hpl
          generalize outC page last (cs.take m) = xs at how HSN hlm
          by_cases k1 : pg < page
          · have HSN : Hid (outC page last (cs.take (m + 1)) = xs ++ [(p, r)]) := by show _ = _; rw [HSN, if_pos (Or.inl k1)]
            have n1 : (pg : Int) < (page : Int) := by omega
            clear D0 D1 n1
            have n1 : decide ((pg : Int) < (page : Int)) = true := decide_eq_true (by omega)
            go_wp2_with (at_builtin; refine wpList_append_own _ rfl (.tmp 73) (.tmp 79) 23 rfl w1.heap.size 58 j0 _ 2 16 Try.underlying23 HJ.out.1 HJ.out.2.1 HJ.out.2.2.1 HJ.out.2.2.2 rfl (by decide) _ _ _ rfl (own_alloc how _) ⟨wr.heap.size, 0, none⟩ 1 1 [.int .u64 (p : Int), .int .u64 r] rfl rfl (cells2 _ _ _ _) (one2 _ _ _) (by unfold maxLen; omega) (by omega) (by simp; omega) ?_; intro sv w2 how2 hgr2 _; obtain ⟨sa2, sn2, sp2, rfl⟩ := own_shape how2; have R2 := app_own how2; have B2 : Below w1.heap.size w1 w2 := app_below _ hbr hWr hgr2 (own_ge how); have S2 := B2.size; have y20 := keep_cell (below_tr hbW1 B2) c0; have y21 := keep_cell (below_tr hbW1 B2) c1; have HR2 : Hid (w2.ownsRow w1.heap.size 58 2 (.slice sa2 sn2 sp2) (xs ++ [(p, r)]).length (rowOf .u64 (xs ++ [(p, r)]))) := R2; have HB2 : Hid (Below w1.heap.size w1 w2) := B2; clear R2 B2 how2 hgr2 S2)
            go_roundw
            case rel => exact ⟨m + 1, by omega, by go_num, by rw [HSN.out]; exact HR2.out, HB2.out⟩
            case measure => simp [intOf]; omega
          · have n1 : ¬ (pg : Int) < (page : Int) := by omega
            obtain ⟨d, hd, hd2⟩ : ∃ d : Nat, IntKind.u64.wrap ((pg : Int) - (page : Int)) = (d : Int) ∧ d = pg - page := ⟨pg - page, by rw [IntKind.wrap_u64]; omega, rfl⟩
            by_cases k2 : last < pg
            · have HSN : Hid (outC page last (cs.take (m + 1)) = xs ++ [(p, r)]) := by show _ = _; rw [HSN, if_pos (Or.inr k2)]
              have n2 : (n : Int) ≤ (d : Int) := by have := HN.out; omega
              have n2' : n ≤ d := by omega
              clear k2 D0 D1 hd2
              go_wp2_with (at_builtin; refine wpList_append_own _ rfl (.tmp 73) (.tmp 79) 23 rfl w1.heap.size 58 j0 _ 2 16 Try.underlying23 HJ.out.1 HJ.out.2.1 HJ.out.2.2.1 HJ.out.2.2.2 rfl (by decide) _ _ _ rfl (own_alloc how _) ⟨wr.heap.size, 0, none⟩ 1 1 [.int .u64 (p : Int), .int .u64 r] rfl rfl (cells2 _ _ _ _) (one2 _ _ _) (by unfold maxLen; omega) (by omega) (by simp; omega) ?_; intro sv w2 how2 hgr2 _; obtain ⟨sa2, sn2, sp2, rfl⟩ := own_shape how2; have R2 := app_own how2; have B2 : Below w1.heap.size w1 w2 := app_below _ hbr hWr hgr2 (own_ge how); have S2 := B2.size; have y20 := keep_cell (below_tr hbW1 B2) c0; have y21 := keep_cell (below_tr hbW1 B2) c1; have HR2 : Hid (w2.ownsRow w1.heap.size 58 2 (.slice sa2 sn2 sp2) (xs ++ [(p, r)]).length (rowOf .u64 (xs ++ [(p, r)]))) := R2; have HB2 : Hid (Below w1.heap.size w1 w2) := B2; clear R2 B2 how2 hgr2 S2)
              go_roundw
              case rel => exact ⟨m + 1, by omega, by go_num, by rw [HSN.out]; exact HR2.out, HB2.out⟩
              case measure => simp [intOf]; omega
            · have HSN : Hid (outC page last (cs.take (m + 1)) = xs) := by show _ = _; rw [HSN, if_neg (by omega), List.append_nil]
              have n2 : ¬ (n : Int) ≤ (d : Int) := by have := HN.out; omega
              have HOW : Hid (wr.ownsRow w1.heap.size 58 2 (.slice ta tn tp) xs.length (rowOf .u64 xs)) := how
              have HBR : Hid (Below w1.heap.size w1 wr) := hbr
              have n2' : ¬ n ≤ d := by omega
              clear k2 D0 D1 hd2 how hbr hWr
              go_wp2
              go_roundw
              case rel => exact ⟨m + 1, by omega, by go_num, by rw [HSN.out]; exact HOW.out, HBR.out⟩
              case measure => simp [intOf]; omega
        · obtain rfl : m = cs.length := by omega
          rw [List.take_length] at how
          clear hlm

          rw [← HZ.out.2] at how
          have ho1 := own_keep how1 hbr
          have hbx := below_tr hbW1 hbr
          have hbw := below_tr hb hbx
          have G0 := g0.keep hbx
          have G1 := g1.keep hbx
          have q0 := G0.cell
          have q1 := G1.cell
          have q2 := G0.frozen
          have q3 := G1.frozen
          have hws := HWS.out
          have SM : Hid (OwnH w.heap.size ((wr.setCell ⟨w.heap.size + 1, 0, none⟩ (.slice sa sn sp)).setCell ⟨w.heap.size + 1, 1, none⟩ (.slice ta tn tp)) (.slice sa sn sp) (.slice ta tn tp) zm zc) := ⟨res2_own ho1 (by omega) (by omega), res2_own how (by omega) (by omega)⟩
          have SB : Hid (Below w.heap.size w ((wr.setCell ⟨w.heap.size + 1, 0, none⟩ (.slice sa sn sp)).setCell ⟨w.heap.size + 1, 1, none⟩ (.slice ta tn tp))) := below_set (below_set hbw (by simp) _) (by simp) _
          clear how ho1 how1 hws
          go_wp2
          (try simp only [Exit.inBlock, Exit.then])
          obtain ⟨r0, r1⟩ := res2 wr (w.heap.size + 1) (.slice sa sn sp) (.slice ta tn tp) G0 G1
          refine bodyPost_ret (v := .tuple #[.agg #[.slice sa sn sp, .slice ta tn tp], .int .i64 0]) ?_ rfl ⟨_, _, rfl, SM.out, SB.out⟩
          rw [results_cell_tmp rfl]; simp [go_sem, r0, r1]
end Go.Proofs.Ytolmcbnammhjjaa
