/- What is proved here: the document's Protect. -/
import Derived.Test.YtolmcbnammhjjaaApp
import Derived.Test.YtolmcbnammhjjaaOwn2
import Derived.Test.YtolmcbnammhjjaaSmall
import Derived.Test.YtolmcbnammhjjaaPlain
namespace Go.Proofs.Ytolmcbnammhjjaa
open Go.RowKit
set_option linter.unusedVariables false
/-- Pages of which those among n from page on have another prot. -/
def protX (page last : Nat) (prot : Int) (x : Nat × Int) : Nat × Int := if page ≤ x.1 ∧ x.1 ≤ last then (x.1, prot) else x
def protL (page last : Nat) (prot : Int) (xs : List (Nat × Int)) : List (Nat × Int) := xs.map (protX page last prot)
theorem protL_snoc (page last : Nat) (prot : Int) (xs : List (Nat × Int)) (m : Nat) (h : m < xs.length) : protL page last prot (xs.take (m + 1)) = protL page last prot (xs.take m) ++ [protX page last prot xs[m]] := by
  rw [protL, List.take_add_one, List.getElem?_eq_getElem h, List.map_append]; rfl
theorem midL_snoc (page last : Nat) (xs : List (Nat × Int)) (m : Nat) (h : m < xs.length) : (mid (xs.take (m + 1)) page last).length = (mid (xs.take m) page last).length + (if page ≤ xs[m].1 ∧ xs[m].1 ≤ last then 1 else 0) := by
  rw [mid, List.take_add_one, List.getElem?_eq_getElem h, List.filter_append, List.length_append]
  congr 1
  by_cases c : page ≤ xs[m].1 ∧ xs[m].1 ≤ last <;> simp [c]
theorem protL_eq {xs : List (Nat × Int)} (h : Srt xs) {page last : Nat} (prot : Int) (hl : page ≤ last) : protL page last prot xs = lo xs page ++ (mid xs page last).map (fun x => (x.1, prot)) ++ hi xs last := by
  have e := congrArg (protL page last prot) (parts xs h page last hl)
  rw [e]
  have e1 : (lo xs page).map (protX page last prot) = lo xs page := by
    conv => rhs; rw [← List.map_id (lo xs page)]
    exact List.map_congr_left (fun x hx => by have := (lo_mem.1 hx).2; rw [protX, if_neg (by omega)]; rfl)
  have e2 : (mid xs page last).map (protX page last prot) = (mid xs page last).map (fun x => (x.1, prot)) := List.map_congr_left (fun x hx => by have := (mid_mem.1 hx).2; rw [protX, if_pos (by omega)])
  have e3 : (hi xs last).map (protX page last prot) = hi xs last := by
    conv => rhs; rw [← List.map_id (hi xs last)]
    exact List.map_congr_left (fun x hx => by have := (hi_mem.1 hx).2; rw [protX, if_neg (by omega)]; rfl)
  rw [protL, List.map_append, List.map_append, e1, e2, e3]
set_option maxHeartbeats 4000000 in
set_option maxRecDepth 100000 in
theorem rprotect19 (vm vc : Value) (ms cs : List (Nat × Int)) (page n last : Nat) (prot : Int) (w : World) (hm : Sl .i64 w vm ms) (hc : Sl .u64 w vc cs) (lm : ms.length ≤ 536870912) (hrm : ∀ y ∈ ms, y.1 < 18446744073709551616) (hp : pagesOk page n = true) (hq : protOk prot = true) (hl : last = page + n - 1) (hok : (mid ms page last).length = n) :
    Calls Try.prog 19 #[.agg #[vm, vc], .int .u64 (page : Int), .int .u64 (n : Int), .int .i64 prot] w fun e w' => ∃ vm', e = .returned (.tuple #[.agg #[vm', vc], .int .i64 0]) ∧ w'.ownsRow w.heap.size 54 2 vm' (protL page last prot ms).length (rowOf .i64 (protL page last prot ms)) ∧ Below w.heap.size w w' := by
  obtain ⟨W, hW, hb, hsz, c0, c1, h0, _, g0, g1⟩ := box2b w vm vc (.slice none 0 0) (.slice none 0 0) 25 25
  have hWsz : W.heap.size = w.heap.size + 2 := by omega
  obtain ⟨am, pm, rfl, x1, x2, x4⟩ : ∃ ao cap, vm = .slice ao ms.length cap ∧ ms.length ≤ cap ∧ cap ≤ 9223372036854775807 ∧ ∀ i (h : i < ms.length), ∃ b o, ao = some ⟨b, o, none⟩ ∧ W.cell? ⟨b, o + i * 2, none⟩ = some (.int .u64 (ms[i].1 : Int)) ∧ W.cell? ⟨b, o + i * 2 + 1, none⟩ = some (.int .i64 ms[i].2) := by
    obtain ⟨ao, cap, e, q1, q2, _, q4⟩ := hm.keep hb
    exact ⟨ao, cap, e, q1, q2, q4⟩
  obtain ⟨ac, nc, pc, rfl⟩ : ∃ a n p, vc = .slice a n p := by obtain ⟨a, p, h, _⟩ := hc; exact ⟨_, _, _, h⟩
  have HXM : Hid (∀ i (h : i < ms.length), ∃ b o, am = some ⟨b, o, none⟩ ∧ W.cell? ⟨b, o + i * 2, none⟩ = some (.int .u64 (ms[i].1 : Int)) ∧ W.cell? ⟨b, o + i * 2 + 1, none⟩ = some (.int .i64 ms[i].2)) := x4
  obtain ⟨i0, hi, hz0, hz1, hz2⟩ := info_parts info54
  have HI : Hid (Try.prog.info? 54 = some i0 ∧ i0.zero = some (.agg #[.int .u64 0, .int .i64 0]) ∧ i0.size = 2 ∧ i0.bytes = 16) := ⟨hi, hz0, hz1, hz2⟩
  clear hi hz0 hz1 hz2
  have hpp : n ≠ 0 ∧ page + n ≤ 1125899906842624 := by simpa [pagesOk] using hp
  have K41 := wrong41 page n prot (by omega) (by omega) W
  rw [hp, hq] at K41
  have HN : Hid (last = page + n - 1 ∧ n ≠ 0) := ⟨hl, hpp.1⟩
  have HRM : Hid (∀ y ∈ ms, y.1 < 18446744073709551616) := hrm
  obtain ⟨zm, hzm⟩ : ∃ z, z = protL page last prot ms := ⟨_, rfl⟩
  rw [← hzm]
  have HZ : Hid (zm = protL page last prot ms ∧ (mid ms page last).length = n) := ⟨hzm, hok⟩
  have HWS : Hid (W.heap.size = w.heap.size + 2) := hWsz
  clear x4 hm hc hrm hp hq hl hzm hpp hsz hWsz hok
  go_enter Try.func19, Try.ntmps19
  go_wp2_with fail
  refine K41.mono ?_
  rintro e w0 ⟨rfl, h00⟩
  subst h00
  clear K41
  go_wp2
  go_loopw [10, 11, 12] (fun s f i wr => ∃ m : Nat, m ≤ ms.length ∧ i = .int .i64 (m : Int) ∧ f = .int .u64 (((mid (ms.take m) page last).length : Nat) : Int) ∧ wr.ownsRow w0.heap.size 54 2 s (protL page last prot (ms.take m)).length (rowOf .i64 (protL page last prot (ms.take m))) ∧ Below w0.heap.size w0 wr) (fun _ _ i _ => ms.length - (intOf i).toNat)
  case atStart => exact ⟨0, Nat.zero_le _, rfl, rfl, World.ownsRow_nil _ _ _ _, Below.refl _ _⟩
  case round =>
    obtain ⟨m, hmle, rfl, rfl, how, hbr⟩ := hrel
    obtain ⟨sa, sn, sp, rfl⟩ := own_shape how
    have hlm : (protL page last prot (ms.take m)).length ≤ m := by rw [protL, List.length_map]; simp; omega
    have hfm : (mid (ms.take m) page last).length ≤ m := Nat.le_trans (List.length_filter_le _ _) (by simp; omega)
    have e0 := keep_cell hbr c0
    have e1 := keep_cell hbr c1
    have hWr := hbr.size
    by_cases hml : m < ms.length
    · obtain ⟨bb, o, rfl, D0, D1⟩ := HXM.out m hml
      have d0 := keep_cell hbr D0
      have d1 := keep_cell hbr D1
      have HSN := protL_snoc page last prot ms m hml
      have HFN := midL_snoc page last ms m hml
      obtain ⟨p, hp⟩ : ∃ p, p = ms[m].1 := ⟨_, rfl⟩
      obtain ⟨r, hr⟩ : ∃ r, r = ms[m].2 := ⟨_, rfl⟩
      have hx : ms[m] = (p, r) := by rw [hp, hr]
      have hpl := HRM.out _ (List.getElem_mem hml)
      rw [hx] at HSN hpl HFN
      simp only [protX] at HSN hpl HFN
      rw [← hp] at d0
      rw [← hr] at d1
      clear hp hr hx D0 D1
      generalize protL page last prot (ms.take m) = xs at how HSN hlm
      generalize (mid (ms.take m) page last).length = fm at HFN hfm ⊢
      obtain ⟨W2, hW2, hb2, hsz2, m0, m1, mf0, mf1⟩ := box2 wr (.int .u64 (p : Int)) (.int .i64 r) 54
      have hnb : (Value.slice sa sn sp).ownBlock ≠ some wr.heap.size := fun e => absurd (how.lt _ e).2 (Nat.lt_irrefl _)
      have how2' := own_keep how hb2
      have hbr2 := below_tr hbr hb2
      clear hsz2
      by_cases hin : page ≤ p ∧ p ≤ last
      · obtain ⟨q, hq⟩ : ∃ q, q = prot := ⟨_, rfl⟩
        have HSN2 : Hid (protL page last prot (ms.take (m + 1)) = xs ++ [(p, q)]) := by show _ = _; rw [HSN, if_pos hin, hq]
        have HFN2 : Hid ((mid (ms.take (m + 1)) page last).length = fm + 1) := by show _ = _; rw [HFN, if_pos hin]
        have n1 : decide ((page : Int) ≤ (p : Int)) = true := decide_eq_true (by omega)
        have n1' : (page : Int) ≤ (p : Int) := by omega
        obtain ⟨d, hd, hd2⟩ : ∃ d : Nat, IntKind.u64.wrap ((p : Int) - (page : Int)) = (d : Int) ∧ d < n := ⟨p - page, by rw [IntKind.wrap_u64]; omega, by have := HN.out; omega⟩
        have hd3 : (d : Int) < (n : Int) := by omega
        obtain ⟨W3, hW3⟩ : ∃ W3, W2.setCell ⟨wr.heap.size, 1, none⟩ (.int .i64 prot) = W3 := ⟨_, rfl⟩
        have k0 : W3.cell? ⟨wr.heap.size, 0, none⟩ = some (.int .u64 (p : Int)) := by rw [← hW3, World.cell?_setCell_other _ _ _ _ (by simp)]; exact m0
        have k1 : W3.cell? ⟨wr.heap.size, 1, none⟩ = some (.int .i64 prot) := by rw [← hW3]; exact World.cell?_setCell_same _ _ _ m1
        have how3 : W3.ownsRow w0.heap.size 54 2 (.slice sa sn sp) xs.length (rowOf .i64 xs) := by rw [← hW3]; exact ownsRow_setCell_other how2' hnb _
        have hb3 : Below w0.heap.size w0 W3 := by rw [← hW3]; exact below_set hbr2 (by simp; omega) _
        have hW3z := hb3.size
        have yf : IntKind.u64.wrap ((fm : Int) + 1) = ((fm + 1 : Nat) : Int) := by rw [IntKind.wrap_u64]; omega
        subst hq
        clear hin hnb how how2' hbr2 hb2 hbr
        go_wp2_with (at_builtin; refine wpList_append_own _ rfl (.tmp 47) (.tmp 49) 22 rfl w0.heap.size 54 i0 _ 2 16 Try.underlying22 HI.out.1 HI.out.2.1 HI.out.2.2.1 HI.out.2.2.2 rfl (by decide) _ _ _ rfl (own_alloc how3 _) ⟨W3.heap.size, 0, none⟩ 1 1 [.int .u64 (p : Int), .int .i64 q] rfl rfl (cells2 _ _ _ _) (one2 _ _ _) (by unfold maxLen; omega) (by omega) (by simp; omega) ?_; intro sv w2 how2 hgr2 _; obtain ⟨sa2, sn2, sp2, rfl⟩ := own_shape how2; have R2 := app_own how2; have B2 : Below w0.heap.size w0 w2 := app_below _ hb3 hW3z hgr2 (own_ge how3); have S2 := B2.size; have y20 := keep_cell B2 c0; have y21 := keep_cell B2 c1; have HR2 : Hid (w2.ownsRow w0.heap.size 54 2 (.slice sa2 sn2 sp2) (xs ++ [(p, q)]).length (rowOf .i64 (xs ++ [(p, q)]))) := R2; have HB2 : Hid (Below w0.heap.size w0 w2) := B2; clear R2 B2 how2 hgr2 S2)
        go_roundw
        case rel => exact ⟨m + 1, by omega, by go_num, by rw [HFN2.out]; go_num, by rw [HSN2.out]; exact HR2.out, HB2.out⟩
        case measure => simp [intOf]; omega
      · obtain ⟨q, hq⟩ : ∃ q, q = r := ⟨_, rfl⟩
        have HSN2 : Hid (protL page last prot (ms.take (m + 1)) = xs ++ [(p, q)]) := by show _ = _; rw [HSN, if_neg hin, hq]
        have HFN2 : Hid ((mid (ms.take (m + 1)) page last).length = fm) := by show _ = _; rw [HFN, if_neg hin, Nat.add_zero]
        obtain ⟨W3, hW3⟩ : ∃ W3, W3 = W2 := ⟨_, rfl⟩
        subst hW3
        have how3 := how2'
        have hb3 : Below w0.heap.size w0 W3 := hbr2
        have hW3z := hb3.size
        subst hq
        by_cases hpp : page ≤ p
        · have n1 : decide ((page : Int) ≤ (p : Int)) = true := decide_eq_true (by omega)
          have n1' : (page : Int) ≤ (p : Int) := by omega
          obtain ⟨d, hd, hd2⟩ : ∃ d : Nat, IntKind.u64.wrap ((p : Int) - (page : Int)) = (d : Int) ∧ ¬ d < n := ⟨p - page, by rw [IntKind.wrap_u64]; omega, by have := HN.out; omega⟩
          have hd3 : ¬ (d : Int) < (n : Int) := by omega
          clear hin hnb how how2' hbr2 hb2 hbr
          go_wp2_with (at_builtin; refine wpList_append_own _ rfl (.tmp 47) (.tmp 49) 22 rfl w0.heap.size 54 i0 _ 2 16 Try.underlying22 HI.out.1 HI.out.2.1 HI.out.2.2.1 HI.out.2.2.2 rfl (by decide) _ _ _ rfl (own_alloc how3 _) ⟨W3.heap.size, 0, none⟩ 1 1 [.int .u64 (p : Int), .int .i64 q] rfl rfl (cells2 _ _ _ _) (one2 _ _ _) (by unfold maxLen; omega) (by omega) (by simp; omega) ?_; intro sv w2 how2 hgr2 _; obtain ⟨sa2, sn2, sp2, rfl⟩ := own_shape how2; have R2 := app_own how2; have B2 : Below w0.heap.size w0 w2 := app_below _ hb3 hW3z hgr2 (own_ge how3); have S2 := B2.size; have y20 := keep_cell B2 c0; have y21 := keep_cell B2 c1; have HR2 : Hid (w2.ownsRow w0.heap.size 54 2 (.slice sa2 sn2 sp2) (xs ++ [(p, q)]).length (rowOf .i64 (xs ++ [(p, q)]))) := R2; have HB2 : Hid (Below w0.heap.size w0 w2) := B2; clear R2 B2 how2 hgr2 S2)
          go_roundw
          case rel => exact ⟨m + 1, by omega, by go_num, by rw [HFN2.out], by rw [HSN2.out]; exact HR2.out, HB2.out⟩
          case measure => simp [intOf]; omega
        · have n1 : decide ((page : Int) ≤ (p : Int)) = false := decide_eq_false (by omega)
          have n1' : ¬ (page : Int) ≤ (p : Int) := by omega
          clear hin hnb how how2' hbr2 hb2 hbr
          go_wp2_with (at_builtin; refine wpList_append_own _ rfl (.tmp 47) (.tmp 49) 22 rfl w0.heap.size 54 i0 _ 2 16 Try.underlying22 HI.out.1 HI.out.2.1 HI.out.2.2.1 HI.out.2.2.2 rfl (by decide) _ _ _ rfl (own_alloc how3 _) ⟨W3.heap.size, 0, none⟩ 1 1 [.int .u64 (p : Int), .int .i64 q] rfl rfl (cells2 _ _ _ _) (one2 _ _ _) (by unfold maxLen; omega) (by omega) (by simp; omega) ?_; intro sv w2 how2 hgr2 _; obtain ⟨sa2, sn2, sp2, rfl⟩ := own_shape how2; have R2 := app_own how2; have B2 : Below w0.heap.size w0 w2 := app_below _ hb3 hW3z hgr2 (own_ge how3); have S2 := B2.size; have y20 := keep_cell B2 c0; have y21 := keep_cell B2 c1; have HR2 : Hid (w2.ownsRow w0.heap.size 54 2 (.slice sa2 sn2 sp2) (xs ++ [(p, q)]).length (rowOf .i64 (xs ++ [(p, q)]))) := R2; have HB2 : Hid (Below w0.heap.size w0 w2) := B2; clear R2 B2 how2 hgr2 S2)
          go_roundw
          case rel => exact ⟨m + 1, by omega, by go_num, by rw [HFN2.out], by rw [HSN2.out]; exact HR2.out, HB2.out⟩
          case measure => simp [intOf]; omega
    · obtain rfl : m = ms.length := by omega
      rw [List.take_length] at how ⊢
      rw [← HZ.out.1] at how
      rw [HZ.out.2]
      have f0 := g0.keep hbr
      have f1 := g1.keep hbr
      have fh := h0.keep hbr
      have q0 := f0.cell
      have q1 := f1.cell
      have q2 := f0.frozen
      have q3 := f1.frozen
      have q4 := fh.frozen
      have hbw := below_tr hb hbr
      have hws := HWS.out
      obtain ⟨WA, hWA⟩ : ∃ WA, wr.setCell ⟨w.heap.size, 0, none⟩ (.slice sa sn sp) = WA := ⟨_, rfl⟩
      have F0 : Free WA ⟨w.heap.size + 1, 0, none⟩ := by rw [← hWA]; exact f0.set _ _
      have F1 : Free WA ⟨w.heap.size + 1, 1, none⟩ := by rw [← hWA]; exact f1.set _ _
      have u1 : WA.cell? ⟨w.heap.size, 1, none⟩ = some (.slice ac nc pc) := by rw [← hWA, World.cell?_setCell_other _ _ _ _ (by simp)]; exact e1
      have u0 : WA.cell? ⟨w.heap.size, 0, none⟩ = some (.slice sa sn sp) := by rw [← hWA]; exact World.cell?_setCell_same _ _ _ fh.cell
      have i0' := F0.cell
      have i1' := F1.cell
      have i2' := F0.frozen
      have i3' := F1.frozen
      have SM : Hid (World.ownsRow ((WA.setCell ⟨w.heap.size + 1, 0, none⟩ (.slice sa sn sp)).setCell ⟨w.heap.size + 1, 1, none⟩ (.slice ac nc pc)) w.heap.size 54 2 (.slice sa sn sp) zm.length (rowOf .i64 zm)) := by
        rw [← hWA]
        exact res2_own (ownsRow_setCell_below how (by simp; omega) _) (by omega) (by omega)
      have SB : Hid (Below w.heap.size w ((WA.setCell ⟨w.heap.size + 1, 0, none⟩ (.slice sa sn sp)).setCell ⟨w.heap.size + 1, 1, none⟩ (.slice ac nc pc))) := by
        rw [← hWA]
        exact below_set (below_set (below_set hbw (by simp) _) (by simp) _) (by simp) _
      clear how hws hlm hfm
      go_wp2
      (try simp only [Exit.inBlock, Exit.then])
      obtain ⟨r0, r1⟩ := res2 WA (w.heap.size + 1) (.slice sa sn sp) (.slice ac nc pc) F0 F1
      refine bodyPost_ret (v := .tuple #[.agg #[.slice sa sn sp, .slice ac nc pc], .int .i64 0]) ?_ rfl ⟨_, rfl, SM.out, SB.out⟩
      rw [results_cell_tmp rfl]; simp [go_sem, r0, r1]
end Go.Proofs.Ytolmcbnammhjjaa
namespace Go.Proofs.Ytolmcbnammhjjaa
open Go.RowKit
set_option linter.unusedVariables false
set_option maxHeartbeats 4000000 in
set_option maxRecDepth 100000 in
theorem rprotect19_none (vm vc : Value) (ms cs : List (Nat × Int)) (page n last : Nat) (prot : Int) (w : World) (hm : Sl .i64 w vm ms) (hc : Sl .u64 w vc cs) (lm : ms.length ≤ 536870912) (hrm : ∀ y ∈ ms, y.1 < 18446744073709551616) (hp : pagesOk page n = true) (hq : protOk prot = true) (hl : last = page + n - 1) (hok : (mid ms page last).length < n) :
    Calls Try.prog 19 #[.agg #[vm, vc], .int .u64 (page : Int), .int .u64 (n : Int), .int .i64 prot] w fun e w' => e = .returned (.tuple #[.agg #[vm, vc], .int .i64 2]) ∧ Below w.heap.size w w' := by
  obtain ⟨W, hW, hb, hsz, c0, c1, h0, _, g0, g1⟩ := box2b w vm vc (.slice none 0 0) (.slice none 0 0) 25 25
  have hWsz : W.heap.size = w.heap.size + 2 := by omega
  obtain ⟨am, pm, rfl, x1, x2, x4⟩ : ∃ ao cap, vm = .slice ao ms.length cap ∧ ms.length ≤ cap ∧ cap ≤ 9223372036854775807 ∧ ∀ i (h : i < ms.length), ∃ b o, ao = some ⟨b, o, none⟩ ∧ W.cell? ⟨b, o + i * 2, none⟩ = some (.int .u64 (ms[i].1 : Int)) ∧ W.cell? ⟨b, o + i * 2 + 1, none⟩ = some (.int .i64 ms[i].2) := by
    obtain ⟨ao, cap, e, q1, q2, _, q4⟩ := hm.keep hb
    exact ⟨ao, cap, e, q1, q2, q4⟩
  obtain ⟨ac, nc, pc, rfl⟩ : ∃ a n p, vc = .slice a n p := by obtain ⟨a, p, h, _⟩ := hc; exact ⟨_, _, _, h⟩
  have HXM : Hid (∀ i (h : i < ms.length), ∃ b o, am = some ⟨b, o, none⟩ ∧ W.cell? ⟨b, o + i * 2, none⟩ = some (.int .u64 (ms[i].1 : Int)) ∧ W.cell? ⟨b, o + i * 2 + 1, none⟩ = some (.int .i64 ms[i].2)) := x4
  obtain ⟨i0, hi, hz0, hz1, hz2⟩ := info_parts info54
  have HI : Hid (Try.prog.info? 54 = some i0 ∧ i0.zero = some (.agg #[.int .u64 0, .int .i64 0]) ∧ i0.size = 2 ∧ i0.bytes = 16) := ⟨hi, hz0, hz1, hz2⟩
  clear hi hz0 hz1 hz2
  have hpp : n ≠ 0 ∧ page + n ≤ 1125899906842624 := by simpa [pagesOk] using hp
  have K41 := wrong41 page n prot (by omega) (by omega) W
  rw [hp, hq] at K41
  have HN : Hid (last = page + n - 1 ∧ n ≠ 0) := ⟨hl, hpp.1⟩
  have HRM : Hid (∀ y ∈ ms, y.1 < 18446744073709551616) := hrm
  have HZ : Hid ((mid ms page last).length < n) := hok
  have HWS : Hid (W.heap.size = w.heap.size + 2) := hWsz
  clear x4 hm hc hrm hp hq hl hpp hsz hWsz hok
  go_enter Try.func19, Try.ntmps19
  go_wp2_with fail
  refine K41.mono ?_
  rintro e w0 ⟨rfl, h00⟩
  subst h00
  clear K41
  go_wp2
  go_loopw [10, 11, 12] (fun s f i wr => ∃ m : Nat, m ≤ ms.length ∧ i = .int .i64 (m : Int) ∧ f = .int .u64 (((mid (ms.take m) page last).length : Nat) : Int) ∧ wr.ownsRow w0.heap.size 54 2 s (protL page last prot (ms.take m)).length (rowOf .i64 (protL page last prot (ms.take m))) ∧ Below w0.heap.size w0 wr) (fun _ _ i _ => ms.length - (intOf i).toNat)
  case atStart => exact ⟨0, Nat.zero_le _, rfl, rfl, World.ownsRow_nil _ _ _ _, Below.refl _ _⟩
  case round =>
    obtain ⟨m, hmle, rfl, rfl, how, hbr⟩ := hrel
    obtain ⟨sa, sn, sp, rfl⟩ := own_shape how
    have hlm : (protL page last prot (ms.take m)).length ≤ m := by rw [protL, List.length_map]; simp; omega
    have hfm : (mid (ms.take m) page last).length ≤ m := Nat.le_trans (List.length_filter_le _ _) (by simp; omega)
    have e0 := keep_cell hbr c0
    have e1 := keep_cell hbr c1
    have hWr := hbr.size
    by_cases hml : m < ms.length
    · obtain ⟨bb, o, rfl, D0, D1⟩ := HXM.out m hml
      have d0 := keep_cell hbr D0
      have d1 := keep_cell hbr D1
      have HSN := protL_snoc page last prot ms m hml
      have HFN := midL_snoc page last ms m hml
      obtain ⟨p, hp⟩ : ∃ p, p = ms[m].1 := ⟨_, rfl⟩
      obtain ⟨r, hr⟩ : ∃ r, r = ms[m].2 := ⟨_, rfl⟩
      have hx : ms[m] = (p, r) := by rw [hp, hr]
      have hpl := HRM.out _ (List.getElem_mem hml)
      rw [hx] at HSN hpl HFN
      simp only [protX] at HSN hpl HFN
      rw [← hp] at d0
      rw [← hr] at d1
      clear hp hr hx D0 D1
      generalize protL page last prot (ms.take m) = xs at how HSN hlm
      generalize (mid (ms.take m) page last).length = fm at HFN hfm ⊢
      obtain ⟨W2, hW2, hb2, hsz2, m0, m1, mf0, mf1⟩ := box2 wr (.int .u64 (p : Int)) (.int .i64 r) 54
      have hnb : (Value.slice sa sn sp).ownBlock ≠ some wr.heap.size := fun e => absurd (how.lt _ e).2 (Nat.lt_irrefl _)
      have how2' := own_keep how hb2
      have hbr2 := below_tr hbr hb2
      clear hsz2
      by_cases hin : page ≤ p ∧ p ≤ last
      · obtain ⟨q, hq⟩ : ∃ q, q = prot := ⟨_, rfl⟩
        have HSN2 : Hid (protL page last prot (ms.take (m + 1)) = xs ++ [(p, q)]) := by show _ = _; rw [HSN, if_pos hin, hq]
        have HFN2 : Hid ((mid (ms.take (m + 1)) page last).length = fm + 1) := by show _ = _; rw [HFN, if_pos hin]
        have n1 : decide ((page : Int) ≤ (p : Int)) = true := decide_eq_true (by omega)
        have n1' : (page : Int) ≤ (p : Int) := by omega
        obtain ⟨d, hd, hd2⟩ : ∃ d : Nat, IntKind.u64.wrap ((p : Int) - (page : Int)) = (d : Int) ∧ d < n := ⟨p - page, by rw [IntKind.wrap_u64]; omega, by have := HN.out; omega⟩
        have hd3 : (d : Int) < (n : Int) := by omega
        obtain ⟨W3, hW3⟩ : ∃ W3, W2.setCell ⟨wr.heap.size, 1, none⟩ (.int .i64 prot) = W3 := ⟨_, rfl⟩
        have k0 : W3.cell? ⟨wr.heap.size, 0, none⟩ = some (.int .u64 (p : Int)) := by rw [← hW3, World.cell?_setCell_other _ _ _ _ (by simp)]; exact m0
        have k1 : W3.cell? ⟨wr.heap.size, 1, none⟩ = some (.int .i64 prot) := by rw [← hW3]; exact World.cell?_setCell_same _ _ _ m1
        have how3 : W3.ownsRow w0.heap.size 54 2 (.slice sa sn sp) xs.length (rowOf .i64 xs) := by rw [← hW3]; exact ownsRow_setCell_other how2' hnb _
        have hb3 : Below w0.heap.size w0 W3 := by rw [← hW3]; exact below_set hbr2 (by simp; omega) _
        have hW3z := hb3.size
        have yf : IntKind.u64.wrap ((fm : Int) + 1) = ((fm + 1 : Nat) : Int) := by rw [IntKind.wrap_u64]; omega
        subst hq
        clear hin hnb how how2' hbr2 hb2 hbr
        go_wp2_with (at_builtin; refine wpList_append_own _ rfl (.tmp 47) (.tmp 49) 22 rfl w0.heap.size 54 i0 _ 2 16 Try.underlying22 HI.out.1 HI.out.2.1 HI.out.2.2.1 HI.out.2.2.2 rfl (by decide) _ _ _ rfl (own_alloc how3 _) ⟨W3.heap.size, 0, none⟩ 1 1 [.int .u64 (p : Int), .int .i64 q] rfl rfl (cells2 _ _ _ _) (one2 _ _ _) (by unfold maxLen; omega) (by omega) (by simp; omega) ?_; intro sv w2 how2 hgr2 _; obtain ⟨sa2, sn2, sp2, rfl⟩ := own_shape how2; have R2 := app_own how2; have B2 : Below w0.heap.size w0 w2 := app_below _ hb3 hW3z hgr2 (own_ge how3); have S2 := B2.size; have y20 := keep_cell B2 c0; have y21 := keep_cell B2 c1; have HR2 : Hid (w2.ownsRow w0.heap.size 54 2 (.slice sa2 sn2 sp2) (xs ++ [(p, q)]).length (rowOf .i64 (xs ++ [(p, q)]))) := R2; have HB2 : Hid (Below w0.heap.size w0 w2) := B2; clear R2 B2 how2 hgr2 S2)
        go_roundw
        case rel => exact ⟨m + 1, by omega, by go_num, by rw [HFN2.out]; go_num, by rw [HSN2.out]; exact HR2.out, HB2.out⟩
        case measure => simp [intOf]; omega
      · obtain ⟨q, hq⟩ : ∃ q, q = r := ⟨_, rfl⟩
        have HSN2 : Hid (protL page last prot (ms.take (m + 1)) = xs ++ [(p, q)]) := by show _ = _; rw [HSN, if_neg hin, hq]
        have HFN2 : Hid ((mid (ms.take (m + 1)) page last).length = fm) := by show _ = _; rw [HFN, if_neg hin, Nat.add_zero]
        obtain ⟨W3, hW3⟩ : ∃ W3, W3 = W2 := ⟨_, rfl⟩
        subst hW3
        have how3 := how2'
        have hb3 : Below w0.heap.size w0 W3 := hbr2
        have hW3z := hb3.size
        subst hq
        by_cases hpp : page ≤ p
        · have n1 : decide ((page : Int) ≤ (p : Int)) = true := decide_eq_true (by omega)
          have n1' : (page : Int) ≤ (p : Int) := by omega
          obtain ⟨d, hd, hd2⟩ : ∃ d : Nat, IntKind.u64.wrap ((p : Int) - (page : Int)) = (d : Int) ∧ ¬ d < n := ⟨p - page, by rw [IntKind.wrap_u64]; omega, by have := HN.out; omega⟩
          have hd3 : ¬ (d : Int) < (n : Int) := by omega
          clear hin hnb how how2' hbr2 hb2 hbr
          go_wp2_with (at_builtin; refine wpList_append_own _ rfl (.tmp 47) (.tmp 49) 22 rfl w0.heap.size 54 i0 _ 2 16 Try.underlying22 HI.out.1 HI.out.2.1 HI.out.2.2.1 HI.out.2.2.2 rfl (by decide) _ _ _ rfl (own_alloc how3 _) ⟨W3.heap.size, 0, none⟩ 1 1 [.int .u64 (p : Int), .int .i64 q] rfl rfl (cells2 _ _ _ _) (one2 _ _ _) (by unfold maxLen; omega) (by omega) (by simp; omega) ?_; intro sv w2 how2 hgr2 _; obtain ⟨sa2, sn2, sp2, rfl⟩ := own_shape how2; have R2 := app_own how2; have B2 : Below w0.heap.size w0 w2 := app_below _ hb3 hW3z hgr2 (own_ge how3); have S2 := B2.size; have y20 := keep_cell B2 c0; have y21 := keep_cell B2 c1; have HR2 : Hid (w2.ownsRow w0.heap.size 54 2 (.slice sa2 sn2 sp2) (xs ++ [(p, q)]).length (rowOf .i64 (xs ++ [(p, q)]))) := R2; have HB2 : Hid (Below w0.heap.size w0 w2) := B2; clear R2 B2 how2 hgr2 S2)
          go_roundw
          case rel => exact ⟨m + 1, by omega, by go_num, by rw [HFN2.out], by rw [HSN2.out]; exact HR2.out, HB2.out⟩
          case measure => simp [intOf]; omega
        · have n1 : decide ((page : Int) ≤ (p : Int)) = false := decide_eq_false (by omega)
          have n1' : ¬ (page : Int) ≤ (p : Int) := by omega
          clear hin hnb how how2' hbr2 hb2 hbr
          go_wp2_with (at_builtin; refine wpList_append_own _ rfl (.tmp 47) (.tmp 49) 22 rfl w0.heap.size 54 i0 _ 2 16 Try.underlying22 HI.out.1 HI.out.2.1 HI.out.2.2.1 HI.out.2.2.2 rfl (by decide) _ _ _ rfl (own_alloc how3 _) ⟨W3.heap.size, 0, none⟩ 1 1 [.int .u64 (p : Int), .int .i64 q] rfl rfl (cells2 _ _ _ _) (one2 _ _ _) (by unfold maxLen; omega) (by omega) (by simp; omega) ?_; intro sv w2 how2 hgr2 _; obtain ⟨sa2, sn2, sp2, rfl⟩ := own_shape how2; have R2 := app_own how2; have B2 : Below w0.heap.size w0 w2 := app_below _ hb3 hW3z hgr2 (own_ge how3); have S2 := B2.size; have y20 := keep_cell B2 c0; have y21 := keep_cell B2 c1; have HR2 : Hid (w2.ownsRow w0.heap.size 54 2 (.slice sa2 sn2 sp2) (xs ++ [(p, q)]).length (rowOf .i64 (xs ++ [(p, q)]))) := R2; have HB2 : Hid (Below w0.heap.size w0 w2) := B2; clear R2 B2 how2 hgr2 S2)
          go_roundw
          case rel => exact ⟨m + 1, by omega, by go_num, by rw [HFN2.out], by rw [HSN2.out]; exact HR2.out, HB2.out⟩
          case measure => simp [intOf]; omega
    · obtain rfl : m = ms.length := by omega
      rw [List.take_length] at how ⊢
      have hz := HZ.out
      generalize (mid ms page last).length = fz at hz ⊢
      have f0 := g0.keep hbr
      have f1 := g1.keep hbr
      have q0 := f0.cell
      have q1 := f1.cell
      have q2 := f0.frozen
      have q3 := f1.frozen
      have hbw := below_tr hb hbr
      clear how hlm hfm
      go_wp2
      (try simp only [Exit.inBlock, Exit.then])
      obtain ⟨r0, r1⟩ := res2 wr (w.heap.size + 1) (.slice am ms.length pm) (.slice ac nc pc) f0 f1
      refine bodyPost_ret (v := .tuple #[.agg #[.slice am ms.length pm, .slice ac nc pc], .int .i64 2]) ?_ rfl ⟨rfl, below_set (below_set hbw (by simp) _) (by simp) _⟩
      rw [results_cell_tmp rfl]; simp [go_sem, r0, r1]
end Go.Proofs.Ytolmcbnammhjjaa
