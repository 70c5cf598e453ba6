/- What is proved here: the document's Unmap. -/
import Derived.Test.YtdhjmghfiodifaaHeld
import Derived.Test.YtdhjmghfiodifaaCopied
import Derived.Test.YtdhjmghfiodifaaSmall
import Derived.Test.YtdhjmghfiodifaaPlain
import Derived.Test.YtdhjmghfiodifaaGfit
import Derived.Test.YtdhjmghfiodifaaRmap
import Derived.Laws.OwnMore
import Derived.LoopTactic
import Derived.Test.YtdhjmghfiodifaaBackPlain
import Derived.Test.YtdhjmghfiodifaaGw
namespace Go.Proofs.Ytdhjmghfiodifaa
open Go.RowKit
set_option maxRecDepth 100000
set_option linter.unusedVariables false
/-- Pages that are not among n from page on. -/
def outM (page last : Nat) (xs : List (Nat × Int)) : List (Nat × Int) := xs.filter (fun x => decide (x.1 < page ∨ last < x.1))
/-- Cells that are not on these. -/
def outC (page last : Nat) (xs : List (Nat × Int)) : List (Nat × Int) := xs.filter (fun x => decide (x.1 / 16384 < page ∨ last < x.1 / 16384))
theorem outM_snoc (page last : Nat) (xs : List (Nat × Int)) (m : Nat) (h : m < xs.length) : outM page last (xs.take (m + 1)) = outM page last (xs.take m) ++ (if xs[m].1 < page ∨ last < xs[m].1 then [xs[m]] else []) := by
  rw [outM, List.take_add_one, List.getElem?_eq_getElem h, List.filter_append]
  by_cases c : xs[m].1 < page ∨ last < xs[m].1 <;> simp [outM, c]
theorem outC_snoc (page last : Nat) (xs : List (Nat × Int)) (m : Nat) (h : m < xs.length) : outC page last (xs.take (m + 1)) = outC page last (xs.take m) ++ (if xs[m].1 / 16384 < page ∨ last < xs[m].1 / 16384 then [xs[m]] else []) := by
  rw [outC, List.take_add_one, List.getElem?_eq_getElem h, List.filter_append]
  by_cases c : xs[m].1 / 16384 < page ∨ last < xs[m].1 / 16384 <;> simp [outC, c]
theorem outM_eq {xs : List (Nat × Int)} (h : Srt xs) {page last : Nat} (hl : page ≤ last) : outM page last xs = lo xs page ++ hi xs last := by
  have e := congrArg (outM page last) (parts xs h page last hl)
  rw [e]
  have e1 : (lo xs page).filter (fun x => decide (x.1 < page ∨ last < x.1)) = lo xs page := List.filter_eq_self.2 (fun x hx => by have := (lo_mem.1 hx).2; simp; omega)
  have e2 : (mid xs page last).filter (fun x => decide (x.1 < page ∨ last < x.1)) = [] := List.filter_eq_nil_iff.2 (fun x hx => by have := (mid_mem.1 hx).2; simp; omega)
  have e3 : (hi xs last).filter (fun x => decide (x.1 < page ∨ last < x.1)) = hi xs last := List.filter_eq_self.2 (fun x hx => by have := (hi_mem.1 hx).2; simp; omega)
  rw [outM, List.filter_append, List.filter_append, e1, e2, e3, List.append_nil]
theorem outC_eq {xs : List (Nat × Int)} (h : Srt xs) {page last : Nat} (hl : page ≤ last) : outC page last xs = lo xs (page * 16384) ++ hi xs (last * 16384 + 16383) := by
  have e := congrArg (outC page last) (parts xs h (page * 16384) (last * 16384 + 16383) (by omega))
  rw [e]
  have e1 : (lo xs (page * 16384)).filter (fun x => decide (x.1 / 16384 < page ∨ last < x.1 / 16384)) = lo xs (page * 16384) := List.filter_eq_self.2 (fun x hx => by have := (lo_mem.1 hx).2; simp; omega)
  have e2 : (mid xs (page * 16384) (last * 16384 + 16383)).filter (fun x => decide (x.1 / 16384 < page ∨ last < x.1 / 16384)) = [] := List.filter_eq_nil_iff.2 (fun x hx => by have := (mid_mem.1 hx).2; simp; omega)
  have e3 : (hi xs (last * 16384 + 16383)).filter (fun x => decide (x.1 / 16384 < page ∨ last < x.1 / 16384)) = hi xs (last * 16384 + 16383) := List.filter_eq_self.2 (fun x hx => by have := (hi_mem.1 hx).2; simp; omega)
  rw [outC, List.filter_append, List.filter_append, e1, e2, e3, List.append_nil]
end Go.Proofs.Ytdhjmghfiodifaa
namespace Go.Proofs.Ytdhjmghfiodifaa
open Go.RowKit
set_option linter.unusedVariables false
set_option linter.unusedSimpArgs false
set_option maxRecDepth 100000
theorem rwrong42 (first n : Nat) (prot : Int) (h1 : first < 4294967296) (h2 : n < 4294967296) (w : World) :
    Calls Try.prog 54 #[.int .u32 (first : Int), .int .u32 (n : Int), .int .i64 prot] w fun e w' => e = .returned (.bool (!(gpagesOk first n && protOk prot))) ∧ w' = w := by
  have hP : gpagesOk first n = decide ((n : Int) ≠ 0 ∧ (first : Int) + n ≤ 1048576) := by
    unfold gpagesOk; congr 1; simp; omega
  rw [hP, protOk]
  obtain ⟨p, hp⟩ : ∃ p : Int, p = first := ⟨_, rfl⟩
  obtain ⟨m, hm⟩ : ∃ m : Int, m = n := ⟨_, rfl⟩
  have g1 : 0 ≤ p := by omega
  have g2 : p < 4294967296 := by omega
  have g3 : 0 ≤ m := by omega
  rw [← hp, ← hm]
  clear hp hm hP h1 h2
  by_cases a : m = 0
  · subst a
    go_enter Try.func54, Try.ntmps54
    go_wp2
    go_ret
    exact ⟨by simp, rfl⟩
  by_cases b : 1048576 ≤ p
  · go_enter Try.func54, Try.ntmps54
    go_wp2
    go_ret
    exact ⟨by simp; omega, rfl⟩
  have e : IntKind.u32.wrap (1048576 - p) = 1048576 - p := by rw [IntKind.wrap_u32]; omega
  have e' : (1048576 - p) % 4294967296 = 1048576 - p := by omega
  by_cases c : 1048576 - p < m
  · go_enter Try.func54, Try.ntmps54
    go_wp2
    go_ret
    exact ⟨by simp; omega, rfl⟩
  by_cases d : prot < 0
  · go_enter Try.func54, Try.ntmps54
    go_wp2
    go_ret
    exact ⟨by simp; omega, rfl⟩
  by_cases d2 : 7 < prot
  · rw [show (!(decide (m ≠ 0 ∧ p + m ≤ 1048576) && decide (0 ≤ prot ∧ prot ≤ 7))) = true by simp; omega]
    go_enter Try.func54, Try.ntmps54
    go_wp2
    go_ret
    exact ⟨by first | rfl | (simp; done) | (simp; omega), rfl⟩
  · rw [show (!(decide (m ≠ 0 ∧ p + m ≤ 1048576) && decide (0 ≤ prot ∧ prot ≤ 7))) = false by simp; omega]
    go_enter Try.func54, Try.ntmps54
    go_wp2
    go_ret
    exact ⟨by first | rfl | (simp; done) | (simp; omega), rfl⟩
theorem rhostPage44 (vm vc vp : Value) (b n : Nat) (hb : b ≤ 4611686018427387904) (hn : n < 4294967296) (w : World) (hm : ∃ a n p, vm = .slice a n p) (hc : ∃ a n p, vc = .slice a n p) (hp : ∃ a n p, vp = .slice a n p) :
    Calls Try.prog 56 #[.agg #[vm, vc, .int .u64 (b : Int), vp], .int .u32 (n : Int)] w fun e w' => e = .returned (.int .u64 ((_root_.Go.Proofs.Ytdhjmghfiodifaa.hp b (n / 4) : Nat) : Int)) ∧ Below w.heap.size w w' := by
  obtain ⟨W, hW, hbb, hsz, c0, c1, c2, c3, _⟩ := box4 w vm vc (.int .u64 (b : Int)) vp 29
  obtain ⟨_, _, _, rfl⟩ := hm
  obtain ⟨_, _, _, rfl⟩ := hc
  obtain ⟨_, _, _, rfl⟩ := hp
  obtain ⟨q, hq⟩ : ∃ q, q = b / 16384 := ⟨_, rfl⟩
  obtain ⟨r, hr⟩ : ∃ r, r = n / 4 := ⟨_, rfl⟩
  obtain ⟨z, hz⟩ : ∃ z, z = q + r := ⟨_, rfl⟩
  rw [show _root_.Go.Proofs.Ytdhjmghfiodifaa.hp b (n / 4) = z by rw [hz, hq, hr]; rfl]
  have x1 : IntKind.u64.wrap ((b : Int) / 16384) = (q : Int) := by rw [IntKind.wrap_u64]; omega
  have x2 : IntKind.u64.wrap (n : Int) = (n : Int) := by rw [IntKind.wrap_u64]; omega
  have x3 : IntKind.u64.wrap ((n : Int) / 4) = (r : Int) := by rw [IntKind.wrap_u64]; omega
  have x4 : IntKind.u64.wrap ((q : Int) + (r : Int)) = (z : Int) := by rw [IntKind.wrap_u64]; omega
  have x5 : (b : Int) / 16384 = (q : Int) := by omega
  have x6 : (n : Int) / 4 = (r : Int) := by omega
  have x7 : IntKind.u64.wrap (q : Int) = (q : Int) := by rw [IntKind.wrap_u64]; omega
  have x8 : IntKind.u64.wrap (r : Int) = (r : Int) := by rw [IntKind.wrap_u64]; omega
  clear hq hr hz
  go_enter Try.func56, Try.ntmps56
  go_wp2
  go_ret
  exact ⟨rfl, hbb⟩
set_option maxHeartbeats 4000000 in
theorem rwithout43 (vm vc vp : Value) (bs first n last : Nat) (ps : List (Nat × Int)) (w : World) (hm : ∃ a n p, vm = .slice a n p) (hc : ∃ a n p, vc = .slice a n p) (hp : Pg.Sl .i64 w vp ps) (lp : ps.length ≤ 1000000) (hpn : ∀ y ∈ ps, y.1 < 4294967296) (hn : n ≠ 0) (hfn : first + n < 4294967296) (hla : last = first + n - 1) :
    Calls Try.prog 55 #[.agg #[vm, vc, .int .u64 (bs : Int), vp], .int .u32 (first : Int), .int .u32 (n : Int)] w fun e w' => ∃ v', e = .returned v' ∧ w'.ownsRow w.heap.size 53 2 v' (outM first last ps).length (Pg.rowOf .i64 (outM first last ps)) ∧ Below w.heap.size w w' := by
  obtain ⟨W, hW, hb, hsz, c0, c1, c2, c3, _⟩ := box4 w vm vc (.int .u64 (bs : Int)) vp 29
  obtain ⟨_, _, _, rfl⟩ := hm
  obtain ⟨_, _, _, rfl⟩ := hc
  obtain ⟨ap, pp, rfl, x1, x2, x4⟩ : ∃ ao cap, vp = .slice ao ps.length cap ∧ ps.length ≤ cap ∧ cap ≤ 9223372036854775807 ∧ ∀ i (h : i < ps.length), ∃ b o, ao = some ⟨b, o, none⟩ ∧ W.cell? ⟨b, o + i * 2, none⟩ = some (.int .u32 (ps[i].1 : Int)) ∧ W.cell? ⟨b, o + i * 2 + 1, none⟩ = some (.int .i64 ps[i].2) := by
    obtain ⟨ao, cap, e, q1, q2, _, q4⟩ := hp.keep hb
    exact ⟨ao, cap, e, q1, q2, q4⟩
  have HX : Hid (∀ i (h : i < ps.length), ∃ b o, ap = some ⟨b, o, none⟩ ∧ W.cell? ⟨b, o + i * 2, none⟩ = some (.int .u32 (ps[i].1 : Int)) ∧ W.cell? ⟨b, o + i * 2 + 1, none⟩ = some (.int .i64 ps[i].2)) := x4
  obtain ⟨i0, hi, hz0, hz1, hz2⟩ := info_parts Pg.info54
  have HI : Hid (Try.prog.info? 53 = some i0 ∧ i0.zero = some (.agg #[.int .u32 0, .int .i64 0]) ∧ i0.size = 2 ∧ i0.bytes = 16) := ⟨hi, hz0, hz1, hz2⟩
  clear hi hz0 hz1 hz2
  have HPN : Hid (∀ y ∈ ps, y.1 < 4294967296) := hpn
  have HN : Hid (last = first + n - 1 ∧ n ≠ 0) := ⟨hla, hn⟩
  have HWS : Hid (W.heap.size = w.heap.size + 1) := by rw [hsz]; rfl
  obtain ⟨zp, hzp⟩ : ∃ z, z = outM first last ps := ⟨_, rfl⟩
  rw [← hzp]
  have HZ : Hid (zp = outM first last ps) := hzp
  have hlaz : first ≤ last := by omega
  clear x4 hp hpn hla hn hzp hsz
  go_enter Try.func55, Try.ntmps55
  go_wp2
  go_loopw [7, 8] (fun s i wr => ∃ m : Nat, m ≤ ps.length ∧ i = .int .i64 (m : Int) ∧ wr.ownsRow W.heap.size 53 2 s (outM first last (ps.take m)).length (Pg.rowOf .i64 (outM first last (ps.take m))) ∧ Below W.heap.size W wr) (fun _ i _ => ps.length - (intOf i).toNat)
  case atStart => exact ⟨0, Nat.zero_le _, rfl, World.ownsRow_nil _ _ _ _, Below.refl _ _⟩
  case round =>
    obtain ⟨m, hmle, rfl, how, hbr⟩ := hrel
    obtain ⟨sa, sn, sp, rfl⟩ := own_shape how
    have hlm : (outM first last (ps.take m)).length ≤ m := Nat.le_trans (List.length_filter_le _ _) (by simp; omega)
    have e0 := keep_cell hbr c0
    have e1 := keep_cell hbr c1
    have e2 := keep_cell hbr c2
    have e3 := keep_cell hbr c3
    have hWr := hbr.size
    by_cases hml : m < ps.length
    · obtain ⟨bb, o, rfl, D0, D1⟩ := HX.out m hml
      have d0 := keep_cell hbr D0
      have d1 := keep_cell hbr D1
      have HSN := outM_snoc first last ps m hml
      obtain ⟨p, hp⟩ : ∃ p, p = ps[m].1 := ⟨_, rfl⟩
      obtain ⟨r, hr⟩ : ∃ r, r = ps[m].2 := ⟨_, rfl⟩
      have hx : ps[m] = (p, r) := by rw [hp, hr]
      have hpl := HPN.out _ (List.getElem_mem hml)
      rw [hx] at HSN hpl
      simp only at HSN hpl
      rw [← hp] at d0
      rw [← hr] at d1
      clear hp hr hx D0 D1
      generalize outM first last (ps.take m) = xs at how HSN hlm
      obtain ⟨W2, hW2, hb2, hsz2, m0, m1, mf0, mf1⟩ := box2 wr (.int .u32 (p : Int)) (.int .i64 r) 53
      have how2' := own_keep how hb2
      have hbr2 := below_tr hbr hb2
      have hW2z := hbr2.size
      have e0 := keep_cell hb2 e0
      have e1 := keep_cell hb2 e1
      have e2 := keep_cell hb2 e2
      have e3 := keep_cell hb2 e3
      clear hsz2 how hbr
      by_cases k1 : p < first
      · have HSN : Hid (outM first last (ps.take (m + 1)) = xs ++ [(p, r)]) := by show _ = _; rw [HSN, if_pos (Or.inl k1)]
        have n1 : decide ((p : Int) < (first : Int)) = true := decide_eq_true (by omega)
        go_wp2_with (at_builtin; refine wpList_append_own _ rfl (.tmp 34) (.tmp 36) 27 rfl W.heap.size 53 i0 _ 2 16 Try.underlying27 HI.out.1 HI.out.2.1 HI.out.2.2.1 HI.out.2.2.2 rfl (by decide) _ _ _ rfl (own_alloc how2' _) ⟨W2.heap.size, 0, none⟩ 1 1 [.int .u32 (p : Int), .int .i64 r] rfl rfl (cells2 _ _ _ _) (Pg.one2 _ _ _) (by unfold maxLen; omega) (by omega) (by simp; omega) ?_; intro sv w2 how2 hgr2 _; obtain ⟨sa2, sn2, sp2, rfl⟩ := own_shape how2; have R2 := Pg.app_own how2; have B2 : Below W.heap.size W w2 := app_below _ hbr2 hW2z hgr2 (own_ge how2'); have S2 := B2.size; have y20 := keep_cell B2 c0; have y21 := keep_cell B2 c1; have y22 := keep_cell B2 c2; have y23 := keep_cell B2 c3; have HR2 : Hid (w2.ownsRow W.heap.size 53 2 (.slice sa2 sn2 sp2) (xs ++ [(p, r)]).length (Pg.rowOf .i64 (xs ++ [(p, r)]))) := R2; have HB2 : Hid (Below W.heap.size W w2) := B2; clear R2 B2 how2 hgr2 S2)
        go_roundw
        case rel => exact ⟨m + 1, by omega, by go_num, by rw [HSN.out]; exact HR2.out, HB2.out⟩
        case measure => simp [intOf]; omega
      · have n1 : ¬ (p : Int) < (first : Int) := by omega
        obtain ⟨d, hd, hd2⟩ : ∃ d : Nat, IntKind.u32.wrap ((p : Int) - (first : Int)) = (d : Int) ∧ d = p - first := ⟨p - first, by rw [IntKind.wrap_u32]; omega, rfl⟩
        have hd' : ((p : Int) - (first : Int)) % 4294967296 = (d : Int) := by omega
        by_cases k2 : last < p
        · have HSN : Hid (outM first last (ps.take (m + 1)) = xs ++ [(p, r)]) := by show _ = _; rw [HSN, if_pos (Or.inr k2)]
          have n2 : n ≤ d := by have := HN.out; omega
          clear k2 hd2
          go_wp2_with (at_builtin; refine wpList_append_own _ rfl (.tmp 34) (.tmp 36) 27 rfl W.heap.size 53 i0 _ 2 16 Try.underlying27 HI.out.1 HI.out.2.1 HI.out.2.2.1 HI.out.2.2.2 rfl (by decide) _ _ _ rfl (own_alloc how2' _) ⟨W2.heap.size, 0, none⟩ 1 1 [.int .u32 (p : Int), .int .i64 r] rfl rfl (cells2 _ _ _ _) (Pg.one2 _ _ _) (by unfold maxLen; omega) (by omega) (by simp; omega) ?_; intro sv w2 how2 hgr2 _; obtain ⟨sa2, sn2, sp2, rfl⟩ := own_shape how2; have R2 := Pg.app_own how2; have B2 : Below W.heap.size W w2 := app_below _ hbr2 hW2z hgr2 (own_ge how2'); have S2 := B2.size; have y20 := keep_cell B2 c0; have y21 := keep_cell B2 c1; have y22 := keep_cell B2 c2; have y23 := keep_cell B2 c3; have HR2 : Hid (w2.ownsRow W.heap.size 53 2 (.slice sa2 sn2 sp2) (xs ++ [(p, r)]).length (Pg.rowOf .i64 (xs ++ [(p, r)]))) := R2; have HB2 : Hid (Below W.heap.size W w2) := B2; clear R2 B2 how2 hgr2 S2)
          go_roundw
          case rel => exact ⟨m + 1, by omega, by go_num, by rw [HSN.out]; exact HR2.out, HB2.out⟩
          case measure => simp [intOf]; omega
        · have HSN : Hid (outM first last (ps.take (m + 1)) = xs) := by show _ = _; rw [HSN, if_neg (by omega), List.append_nil]
          have n2 : ¬ n ≤ d := by have := HN.out; omega
          have HR2 : Hid (W2.ownsRow W.heap.size 53 2 (.slice sa sn sp) xs.length (Pg.rowOf .i64 xs)) := how2'
          have HB2 : Hid (Below W.heap.size W W2) := hbr2
          clear k2 hd2 how2' hbr2
          go_wp2
          go_roundw
          case rel => exact ⟨m + 1, by omega, by go_num, by rw [HSN.out]; exact HR2.out, HB2.out⟩
          case measure => simp [intOf]; omega
    · obtain rfl : m = ps.length := by omega
      rw [List.take_length, ← HZ.out] at how
      have hbw := below_tr hb hbr
      have hws := HWS.out
      have HO : Hid (wr.ownsRow w.heap.size 53 2 (.slice sa sn sp) zp.length (Pg.rowOf .i64 zp)) := own_base how (by omega)
      clear how hlm hws
      go_wp2
      go_ret
      exact ⟨_, rfl, HO.out, hbw⟩
theorem srt_take {xs : List (Nat × Int)} (sm : Srt xs) : ∀ m (h : m < xs.length), ∀ y ∈ xs.take m, y.1 < (xs[m]).1 := fun m hm y hy => by
  rw [Srt, List.pairwise_iff_getElem] at sm
  obtain ⟨j, hj, rfl⟩ := List.getElem_of_mem hy
  simp at hj ⊢
  exact sm j m (by omega) hm (by omega)
end Go.Proofs.Ytdhjmghfiodifaa
namespace Go.Proofs.Ytdhjmghfiodifaa
open Go.RowKit
set_option linter.unusedVariables false
set_option linter.unusedSimpArgs false
set_option maxRecDepth 100000
set_option maxHeartbeats 8000000 in
theorem rwith47 (vm : Value) (ms : List (Nat × Int)) (page n : Nat) (prot : Int) (w : World) (hm : Pg.Sl .i64 w vm ms) (lm : ms.length ≤ 256) (hrm : ∀ y ∈ ms, y.1 < 4294967296) (hpp : n ≠ 0 ∧ page + n ≤ 1048576) (sm : Srt ms) (hout : ∀ y ∈ ms, y.1 < page ∨ page + n ≤ y.1) (hroom : ms.length + n ≤ 256) :
    Calls Try.prog 59 #[vm, .int .u32 (page : Int), .int .u32 (n : Int), .int .i64 prot] w fun e w' => ∃ vm', e = .returned vm' ∧ w'.ownsRow w.heap.size 53 2 vm' (lo ms page ++ added page prot n ++ hi ms (page + n - 1)).length (Pg.rowOf .i64 (lo ms page ++ added page prot n ++ hi ms (page + n - 1))) ∧ Below w.heap.size w w' := by
  obtain ⟨am, pm, rfl, x1, x2, x4⟩ : ∃ ao cap, vm = .slice ao ms.length cap ∧ ms.length ≤ cap ∧ cap ≤ 9223372036854775807 ∧ ∀ i (h : i < ms.length), ∃ b o, ao = some ⟨b, o, none⟩ ∧ w.cell? ⟨b, o + i * 2, none⟩ = some (.int .u32 (ms[i].1 : Int)) ∧ w.cell? ⟨b, o + i * 2 + 1, none⟩ = some (.int .i64 ms[i].2) := by
    obtain ⟨ao, cap, e, q1, q2, _, q4⟩ := hm
    exact ⟨ao, cap, e, q1, q2, q4⟩
  have HXM : Hid (∀ i (h : i < ms.length), ∃ b o, am = some ⟨b, o, none⟩ ∧ w.cell? ⟨b, o + i * 2, none⟩ = some (.int .u32 (ms[i].1 : Int)) ∧ w.cell? ⟨b, o + i * 2 + 1, none⟩ = some (.int .i64 ms[i].2)) := x4
  have HN : Hid (n ≠ 0 ∧ page + n ≤ 1048576) := hpp
  have HOUT : Hid (∀ y ∈ ms, y.1 < page ∨ page + n ≤ y.1) := hout
  have HNE : Hid (∀ y ∈ ms, y.1 ≠ page) := fun y hy => by have := hout y hy; omega
  have HS : Hid (∀ m (h : m < ms.length), ∀ y ∈ ms.take m, y.1 < (ms[m]).1) := srt_take sm
  have HROOM : Hid (ms.length + n ≤ 256) := hroom
  obtain ⟨i0, hi, hz0, hz1, hz2⟩ := info_parts Pg.info54
  have HI : Hid (Try.prog.info? 53 = some i0 ∧ i0.zero = some (.agg #[.int .u32 0, .int .i64 0]) ∧ i0.size = 2 ∧ i0.bytes = 16) := ⟨hi, hz0, hz1, hz2⟩
  clear hi hz0 hz1 hz2
  have hfin := (ins_end page (added page prot n) ms HNE.out).1
  rw [hi_page (n := n) hpp.1 hout] at hfin
  obtain ⟨zm, hzm⟩ : ∃ z, z = lo ms page ++ added page prot n ++ hi ms (page + n - 1) := ⟨_, rfl⟩
  rw [← hzm] at hfin ⊢
  have HZ : Hid (insL page (added page prot n) ms (ms.length + 1) = zm) := hfin
  have hnl : n ≤ 1048576 := by omega
  have hpl : page ≤ 1048576 := by omega
  clear x4 hm hrm hpp hout hroom sm hfin hzm
  obtain ⟨w0, hw0⟩ : ∃ t, t = w := ⟨_, rfl⟩
  rw [← hw0] at HXM ⊢
  clear hw0
  go_enter Try.func59, Try.ntmps59
  go_wp2
  go_loopw [9, 10, 11] (fun s d i wr => ∃ m : Nat, m ≤ ms.length + 1 ∧ i = .int .i64 (m : Int) ∧ d = .bool (dnM page ms m) ∧ wr.ownsRow w0.heap.size 53 2 s (insL page (added page prot n) ms m).length (Pg.rowOf .i64 (insL page (added page prot n) ms m)) ∧ Below w0.heap.size w0 wr) (fun _ _ i _ => ms.length + 1 - (intOf i).toNat)
  case atStart => exact ⟨0, Nat.zero_le _, rfl, by rw [dn_zero], by rw [ins_zero]; exact World.ownsRow_nil _ _ _ _, Below.refl _ _⟩
  case round =>
    obtain ⟨m, hmle, rfl, rfl, how, hbr⟩ := hrel
    obtain ⟨sa, sn, sp, rfl⟩ := own_shape how
    have hlm := ins_len page (added page prot n) ms m
    rw [added_len] at hlm
    have hWr := hbr.size
    by_cases hml : m < ms.length
    · obtain ⟨bb, o, rfl, D0, D1⟩ := HXM.out m hml
      have hmL : m ≤ ms.length := by omega
      have hs := HS.out m hml
      have hne := HNE.out _ (List.getElem_mem hml)
      by_cases k1 : ms[m].1 < page
      · obtain ⟨o1, o2, o3⟩ := ins_lt (ad := added page prot n) hml hs k1
        rw [o3]
        obtain ⟨p, hp⟩ : ∃ p, p = ms[m].1 := ⟨_, rfl⟩
        obtain ⟨r, hr⟩ : ∃ r, r = ms[m].2 := ⟨_, rfl⟩
        have hx : ms[m] = (p, r) := by rw [hp, hr]
        rw [hx] at o1
        rw [← hp] at D0 k1
        rw [← hr] at D1
        have HSN : Hid (insL page (added page prot n) ms (m + 1) = insL page (added page prot n) ms m ++ [(p, r)] ∧ dnM page ms (m + 1) = false) := ⟨o1, o2⟩
        have d0 := keep_cell hbr D0
        have d1 := keep_cell hbr D1
        have n1 : ¬ page < p := by omega
        have hmI : ((m : Int) == (ms.length : Int)) = false := by simp; omega
        generalize insL page (added page prot n) ms m = xs at how HSN hlm
        have hlx : xs.length ≤ 1000 := by have := HROOM.out; omega
        clear o1 o2 o3 hp hr hx D0 D1 hs hne k1 hlm
        go_wp2_with (at_builtin; refine wpList_append_own _ rfl (.tmp 53) (.tmp 58) 27 rfl w0.heap.size 53 i0 _ 2 16 Try.underlying27 HI.out.1 HI.out.2.1 HI.out.2.2.1 HI.out.2.2.2 rfl (by decide) _ _ _ rfl (own_alloc how _) ⟨wr.heap.size, 0, none⟩ 1 1 [.int .u32 (p : Int), .int .i64 r] rfl rfl (cells2 _ _ _ _) (Pg.one2 _ _ _) (by unfold maxLen; omega) (by omega) (by simp; omega) ?_; intro sv w2 how2 hgr2 _; obtain ⟨sa2, sn2, sp2, rfl⟩ := own_shape how2; have R2 := Pg.app_own how2; have B2 : Below w0.heap.size w0 w2 := app_below _ hbr hWr hgr2 (own_ge how); have S2 := B2.size; have HR2 : Hid (w2.ownsRow w0.heap.size 53 2 (.slice sa2 sn2 sp2) (xs ++ [(p, r)]).length (Pg.rowOf .i64 (xs ++ [(p, r)]))) := R2; have HB2 : Hid (Below w0.heap.size w0 w2) := B2; clear R2 B2 how2 hgr2 S2)
        go_roundw
        case rel => exact ⟨m + 1, by omega, by go_num, by rw [HSN.out.2], by rw [HSN.out.1]; exact HR2.out, HB2.out⟩
        case measure => simp [intOf] <;> omega
      · obtain ⟨o1, o2⟩ := ins_gt (ad := added page prot n) HNE.out hml (show page < ms[m].1 by omega)
        obtain ⟨p, hp⟩ : ∃ p, p = ms[m].1 := ⟨_, rfl⟩
        obtain ⟨r, hr⟩ : ∃ r, r = ms[m].2 := ⟨_, rfl⟩
        have hx : ms[m] = (p, r) := by rw [hp, hr]
        rw [hx] at o1
        rw [← hp] at D0 k1 hne
        rw [← hr] at D1
        have n1 : page < p := by omega
        have hmI : ((m : Int) == (ms.length : Int)) = false := by simp; omega
        cases hd : dnM page ms m with
        | true =>
          rw [hd, if_pos rfl, List.append_nil] at o1
          have HSN : Hid (insL page (added page prot n) ms (m + 1) = insL page (added page prot n) ms m ++ [(p, r)] ∧ dnM page ms (m + 1) = true) := ⟨o1, o2⟩
          have d0 := keep_cell hbr D0
          have d1 := keep_cell hbr D1
          generalize insL page (added page prot n) ms m = xs at how HSN hlm
          have hlx : xs.length ≤ 1000 := by have := HROOM.out; omega
          clear o1 o2 hd hp hr hx D0 D1 hs hne k1 hlm
          go_wp2_with (at_builtin; refine wpList_append_own _ rfl (.tmp 53) (.tmp 58) 27 rfl w0.heap.size 53 i0 _ 2 16 Try.underlying27 HI.out.1 HI.out.2.1 HI.out.2.2.1 HI.out.2.2.2 rfl (by decide) _ _ _ rfl (own_alloc how _) ⟨wr.heap.size, 0, none⟩ 1 1 [.int .u32 (p : Int), .int .i64 r] rfl rfl (cells2 _ _ _ _) (Pg.one2 _ _ _) (by unfold maxLen; omega) (by omega) (by simp; omega) ?_; intro sv w2 how2 hgr2 _; obtain ⟨sa2, sn2, sp2, rfl⟩ := own_shape how2; have R2 := Pg.app_own how2; have B2 : Below w0.heap.size w0 w2 := app_below _ hbr hWr hgr2 (own_ge how); have S2 := B2.size; have HR2 : Hid (w2.ownsRow w0.heap.size 53 2 (.slice sa2 sn2 sp2) (xs ++ [(p, r)]).length (Pg.rowOf .i64 (xs ++ [(p, r)]))) := R2; have HB2 : Hid (Below w0.heap.size w0 w2) := B2; clear R2 B2 how2 hgr2 S2)
          go_roundw
          case rel => exact ⟨m + 1, by omega, by go_num, by rw [HSN.out.2], by rw [HSN.out.1]; exact HR2.out, HB2.out⟩
          case measure => simp [intOf] <;> omega
        | false =>
          rw [hd, if_neg (by simp)] at o1
          have HSN : Hid (insL page (added page prot n) ms (m + 1) = insL page (added page prot n) ms m ++ added page prot n ++ [(p, r)] ∧ dnM page ms (m + 1) = true) := ⟨o1, o2⟩
          have d0 := keep_cell hbr D0
          have d1 := keep_cell hbr D1
          generalize insL page (added page prot n) ms m = xs at how HSN hlm
          have HLX : Hid (xs.length ≤ 2 * m + n ∧ m ≤ ms.length) := ⟨hlm, by omega⟩
          have HOX : Hid (wr.ownsRow w0.heap.size 53 2 (.slice sa sn sp) xs.length (Pg.rowOf .i64 xs) ∧ Below w0.heap.size w0 wr) := ⟨how, hbr⟩
          clear o1 o2 hd hp hr hx hs hne k1 hlm how hbr hWr
          go_wp2
          go_loopw [9, 12] (fun s k wr => ∃ j : Nat, j ≤ n ∧ k = .int .u32 (j : Int) ∧ wr.ownsRow w0.heap.size 53 2 s (xs ++ added page prot j).length (Pg.rowOf .i64 (xs ++ added page prot j)) ∧ Below w0.heap.size w0 wr) (fun _ k _ => n - (intOf k).toNat)
          case atStart => exact ⟨0, Nat.zero_le _, rfl, by rw [added_zero, List.append_nil]; exact HOX.out.1, HOX.out.2⟩
          case round =>
            obtain ⟨j, hjn, rfl, how, hbr⟩ := hrel
            obtain ⟨ta, tn, tp, rfl⟩ := own_shape how
            have hWr := hbr.size
            by_cases hj : j < n
            · have hlj : (xs ++ added page prot j).length ≤ 1000 := by rw [List.length_append, added_len]; have := HLX.out; have := HROOM.out; omega
              have HSJ : Hid (xs ++ added page prot (j + 1) = (xs ++ added page prot j) ++ [(page + j, prot)]) := by show _ = _; rw [added_snoc, List.append_assoc]
              obtain ⟨pk, hpk⟩ : ∃ t, t = page + j := ⟨_, rfl⟩
              have x3 : IntKind.u32.wrap ((page : Int) + (j : Int)) = (pk : Int) := by have := HN.out; rw [IntKind.wrap_u32]; omega
              have x3' : ((page : Int) + (j : Int)) % 4294967296 = (pk : Int) := by have := HN.out; omega
              have x5 : IntKind.u32.wrap ((j : Int) + 1) = ((j + 1 : Nat) : Int) := by rw [IntKind.wrap_u32]; omega
              have x5' : ((j : Int) + 1) % 4294967296 = ((j + 1 : Nat) : Int) := by omega
              have hjI : j < n := by omega
              rw [← hpk] at HSJ
              generalize xs ++ added page prot j = ys at how HSJ hlj
              clear hpk
              go_wp2_with (at_builtin; refine wpList_append_own _ rfl (.tmp 41) (.tmp 47) 27 rfl w0.heap.size 53 i0 _ 2 16 Try.underlying27 HI.out.1 HI.out.2.1 HI.out.2.2.1 HI.out.2.2.2 rfl (by decide) _ _ _ rfl (own_alloc how _) ⟨wr.heap.size, 0, none⟩ 1 1 [.int .u32 (pk : Int), .int .i64 prot] rfl rfl (cells2 _ _ _ _) (Pg.one2 _ _ _) (by unfold maxLen; omega) (by omega) (by simp; omega) ?_; intro sv w2 how2 hgr2 _; obtain ⟨sa2, sn2, sp2, rfl⟩ := own_shape how2; have R2 := Pg.app_own how2; have B2 : Below w0.heap.size w0 w2 := app_below _ hbr hWr hgr2 (own_ge how); have S2 := B2.size; have HR2 : Hid (w2.ownsRow w0.heap.size 53 2 (.slice sa2 sn2 sp2) (ys ++ [(pk, prot)]).length (Pg.rowOf .i64 (ys ++ [(pk, prot)]))) := R2; have HB2 : Hid (Below w0.heap.size w0 w2) := B2; clear R2 B2 how2 hgr2 S2)
              go_roundw
              case rel => exact ⟨j + 1, by omega, by go_num, by rw [HSJ.out]; exact HR2.out, HB2.out⟩
              case measure => simp [intOf] <;> omega
            · obtain rfl : j = n := by omega
              have hjI : True := trivial
              clear hjn hj
              obtain ⟨xs2, hxs2⟩ : ∃ t, t = xs ++ added page prot j := ⟨_, rfl⟩
              have hlj : xs2.length ≤ 1000 := by rw [hxs2, List.length_append, added_len]; have := HLX.out; have := HROOM.out; omega
              rw [← hxs2] at how
              rw [← hxs2] at HSN
              have d0 := keep_cell hbr D0
              have d1 := keep_cell hbr D1
              clear hxs2
              go_wp2_with (at_builtin; refine wpList_append_own _ rfl (.tmp 53) (.tmp 58) 27 rfl w0.heap.size 53 i0 _ 2 16 Try.underlying27 HI.out.1 HI.out.2.1 HI.out.2.2.1 HI.out.2.2.2 rfl (by decide) _ _ _ rfl (own_alloc how _) ⟨wr.heap.size, 0, none⟩ 1 1 [.int .u32 (p : Int), .int .i64 r] rfl rfl (cells2 _ _ _ _) (Pg.one2 _ _ _) (by unfold maxLen; omega) (by omega) (by simp; omega) ?_; intro sv w2 how2 hgr2 _; obtain ⟨sa2, sn2, sp2, rfl⟩ := own_shape how2; have R2 := Pg.app_own how2; have B2 : Below w0.heap.size w0 w2 := app_below _ hbr hWr hgr2 (own_ge how); have S2 := B2.size; have HR2 : Hid (w2.ownsRow w0.heap.size 53 2 (.slice sa2 sn2 sp2) (xs2 ++ [(p, r)]).length (Pg.rowOf .i64 (xs2 ++ [(p, r)]))) := R2; have HB2 : Hid (Below w0.heap.size w0 w2) := B2; clear R2 B2 how2 hgr2 S2)
              go_roundw
              case rel => exact ⟨m + 1, by omega, by go_num, by rw [HSN.out.2], by rw [HSN.out.1]; exact HR2.out, HB2.out⟩
              case measure => simp [intOf] <;> omega
    · by_cases hme : m = ms.length
      · subst hme
        obtain ⟨_, o1, o2⟩ := ins_end page (added page prot n) ms HNE.out
        have hfe := (ins_end page (added page prot n) ms HNE.out).1
        rw [← hfe] at o1
        have hmI : ((ms.length : Int) == (ms.length : Int)) = true := by simp
        cases hd : dnM page ms ms.length with
        | true =>
          rw [hd, if_pos rfl, List.append_nil] at o1
          rw [o1] at how
          have HO2 : Hid (dnM page ms (ms.length + 1) = true) := o2
          have HOW : Hid (wr.ownsRow w0.heap.size 53 2 (.slice sa sn sp) (insL page (added page prot n) ms (ms.length + 1)).length (Pg.rowOf .i64 (insL page (added page prot n) ms (ms.length + 1)))) := how
          have HBR : Hid (Below w0.heap.size w0 wr) := hbr
          clear o1 o2 hd hfe how hbr hlm hWr
          go_wp2
          go_roundw
          case rel => exact ⟨ms.length + 1, by omega, by go_num, by rw [HO2.out], HOW.out, HBR.out⟩
          case measure => simp [intOf] <;> omega
        | false =>
          rw [hd, if_neg (by simp)] at o1
          have HSN : Hid (insL page (added page prot n) ms ms.length ++ added page prot n = insL page (added page prot n) ms (ms.length + 1) ∧ dnM page ms (ms.length + 1) = true) := ⟨o1, o2⟩
          have HLX : Hid ((insL page (added page prot n) ms ms.length).length ≤ 2 * ms.length + n) := hlm
          have HOX : Hid (wr.ownsRow w0.heap.size 53 2 (.slice sa sn sp) (insL page (added page prot n) ms ms.length).length (Pg.rowOf .i64 (insL page (added page prot n) ms ms.length)) ∧ Below w0.heap.size w0 wr) := ⟨how, hbr⟩
          generalize insL page (added page prot n) ms ms.length = xs at HOX HSN HLX
          clear o1 o2 hd hfe how hbr hlm hWr
          go_wp2
          go_loopw [9, 12] (fun s k wr => ∃ j : Nat, j ≤ n ∧ k = .int .u32 (j : Int) ∧ wr.ownsRow w0.heap.size 53 2 s (xs ++ added page prot j).length (Pg.rowOf .i64 (xs ++ added page prot j)) ∧ Below w0.heap.size w0 wr) (fun _ k _ => n - (intOf k).toNat)
          case atStart => exact ⟨0, Nat.zero_le _, rfl, by rw [added_zero, List.append_nil]; exact HOX.out.1, HOX.out.2⟩
          case round =>
            obtain ⟨j, hjn, rfl, how, hbr⟩ := hrel
            obtain ⟨ta, tn, tp, rfl⟩ := own_shape how
            have hWr := hbr.size
            by_cases hj : j < n
            · have hlj : (xs ++ added page prot j).length ≤ 1000 := by rw [List.length_append, added_len]; have := HLX.out; have := HROOM.out; omega
              have HSJ : Hid (xs ++ added page prot (j + 1) = (xs ++ added page prot j) ++ [(page + j, prot)]) := by show _ = _; rw [added_snoc, List.append_assoc]
              obtain ⟨pk, hpk⟩ : ∃ t, t = page + j := ⟨_, rfl⟩
              have x3 : IntKind.u32.wrap ((page : Int) + (j : Int)) = (pk : Int) := by have := HN.out; rw [IntKind.wrap_u32]; omega
              have x3' : ((page : Int) + (j : Int)) % 4294967296 = (pk : Int) := by have := HN.out; omega
              have x5 : IntKind.u32.wrap ((j : Int) + 1) = ((j + 1 : Nat) : Int) := by rw [IntKind.wrap_u32]; omega
              have x5' : ((j : Int) + 1) % 4294967296 = ((j + 1 : Nat) : Int) := by omega
              have hjI : j < n := by omega
              rw [← hpk] at HSJ
              generalize xs ++ added page prot j = ys at how HSJ hlj
              clear hpk
              go_wp2_with (at_builtin; refine wpList_append_own _ rfl (.tmp 41) (.tmp 47) 27 rfl w0.heap.size 53 i0 _ 2 16 Try.underlying27 HI.out.1 HI.out.2.1 HI.out.2.2.1 HI.out.2.2.2 rfl (by decide) _ _ _ rfl (own_alloc how _) ⟨wr.heap.size, 0, none⟩ 1 1 [.int .u32 (pk : Int), .int .i64 prot] rfl rfl (cells2 _ _ _ _) (Pg.one2 _ _ _) (by unfold maxLen; omega) (by omega) (by simp; omega) ?_; intro sv w2 how2 hgr2 _; obtain ⟨sa2, sn2, sp2, rfl⟩ := own_shape how2; have R2 := Pg.app_own how2; have B2 : Below w0.heap.size w0 w2 := app_below _ hbr hWr hgr2 (own_ge how); have S2 := B2.size; have HR2 : Hid (w2.ownsRow w0.heap.size 53 2 (.slice sa2 sn2 sp2) (ys ++ [(pk, prot)]).length (Pg.rowOf .i64 (ys ++ [(pk, prot)]))) := R2; have HB2 : Hid (Below w0.heap.size w0 w2) := B2; clear R2 B2 how2 hgr2 S2)
              go_roundw
              case rel => exact ⟨j + 1, by omega, by go_num, by rw [HSJ.out]; exact HR2.out, HB2.out⟩
              case measure => simp [intOf] <;> omega
            · obtain rfl : j = n := by omega
              have hjI : True := trivial
              clear hjn hj
              rw [HSN.out.1] at how
              have HOW : Hid (wr.ownsRow w0.heap.size 53 2 (.slice ta tn tp) (insL page (added page prot j) ms (ms.length + 1)).length (Pg.rowOf .i64 (insL page (added page prot j) ms (ms.length + 1)))) := how
              have HBR : Hid (Below w0.heap.size w0 wr) := hbr
              clear how hbr
              go_wp2
              go_roundw
              case rel => exact ⟨ms.length + 1, by omega, by go_num, by rw [HSN.out.2], HOW.out, HBR.out⟩
              case measure => simp [intOf] <;> omega
      · obtain rfl : m = ms.length + 1 := by omega
        rw [HZ.out] at how
        have HO : Hid (wr.ownsRow w0.heap.size 53 2 (.slice sa sn sp) zm.length (Pg.rowOf .i64 zm)) := how
        have hmI : ¬ ((ms.length : Int) + 1 ≤ (ms.length : Int)) := by omega
        clear how hlm hml hme
        go_wp2
        go_ret
        exact ⟨_, rfl, HO.out, hbr⟩
end Go.Proofs.Ytdhjmghfiodifaa
namespace Go.Proofs.Ytdhjmghfiodifaa
open Go.RowKit
set_option linter.unusedVariables false
set_option linter.unusedSimpArgs false
set_option maxRecDepth 100000
/-- Two new blocks of four cells, both to be written. -/
theorem box44f (w : World) (x0 x1 x2 x3 y0 y1 y2 y3 : Value) (t s : Nat) : ∃ W, (w.alloc (.cells #[x0, x1, x2, x3] t)).alloc (.cells #[y0, y1, y2, y3] s) = W ∧ Below w.heap.size w W ∧ W.heap.size = w.heap.size + 1 + 1 ∧
    (W.cell? ⟨w.heap.size, 0, none⟩ = some x0 ∧ W.cell? ⟨w.heap.size, 1, none⟩ = some x1 ∧ W.cell? ⟨w.heap.size, 2, none⟩ = some x2 ∧ W.cell? ⟨w.heap.size, 3, none⟩ = some x3) ∧
    (Free W ⟨w.heap.size, 0, none⟩ ∧ Free W ⟨w.heap.size, 1, none⟩ ∧ Free W ⟨w.heap.size, 2, none⟩ ∧ Free W ⟨w.heap.size, 3, none⟩) ∧
    Free W ⟨w.heap.size + 1, 0, none⟩ ∧ Free W ⟨w.heap.size + 1, 1, none⟩ ∧ Free W ⟨w.heap.size + 1, 2, none⟩ ∧ Free W ⟨w.heap.size + 1, 3, none⟩ := by
  obtain ⟨X, hX, hx, hsx, c0, c1, c2, c3, e0, e1, e2, e3⟩ := box4 w x0 x1 x2 x3 t
  obtain ⟨W, hW, hb, hs, _, _, _, _, f0, f1, f2, f3⟩ := box4 X y0 y1 y2 y3 s
  rw [hsx] at f0 f1 f2 f3 hs
  exact ⟨W, by rw [hX, hW], below_tr hx hb, hs, ⟨keep_cell hb c0, keep_cell hb c1, keep_cell hb c2, keep_cell hb c3⟩, ⟨e0.keep hb, e1.keep hb, e2.keep hb, e3.keep hb⟩, f0, f1, f2, f3⟩
end Go.Proofs.Ytdhjmghfiodifaa
