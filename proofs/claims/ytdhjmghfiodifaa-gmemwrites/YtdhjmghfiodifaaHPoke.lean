/- What is proved here: what stage 3 has of Poke (the host's bytes). -/
import Derived.Test.YtdhjmghfiodifaaBackPlain
import Derived.Test.YtdhjmghfiodifaaHeld
import Derived.Test.YtdhjmghfiodifaaH
import Derived.Test.YtdhjmghfiodifaaHAsk
namespace Go.Proofs.Ytdhjmghfiodifaa
open Go.RowKit
set_option maxRecDepth 100000
set_option linter.unusedVariables false
set_option linter.unusedSimpArgs false
set_option maxHeartbeats 4000000 in
set_option maxRecDepth 100000 in
theorem poke52 (vm vc : Value) (ms cs : List (Nat × Int)) (a bt : Nat) (w : World) (hm : Sl .i64 w vm ms) (hc : Sl .u64 w vc cs) (sc : Srt cs) (lc : cs.length ≤ 536870912) (hw : Words cs) (ha : a < 18446744073709551616) (hbt : bt < 256) :
    Calls Try.prog 92 #[.agg #[vm, vc], .int .u64 (a : Int), .int .u8 (bt : Int)] w fun e w' => ∃ vc', e = .returned (.agg #[vm, vc']) ∧ w'.ownsRow w.heap.size 85 2 vc' (pokeL cs (cellOf a) (pokeW cs a bt)).length (rowOf .u64 (pokeL cs (cellOf a) (pokeW cs a bt))) ∧ Below w.heap.size w w' := by
  obtain ⟨W, hW, hb, hsz, c0, c1, _, h1, g0, g1⟩ := box2b w vm vc (.slice none 0 0) (.slice none 0 0) 25 25
  have hWsz : W.heap.size = w.heap.size + 2 := by omega
  obtain ⟨b, hbb⟩ : ∃ b, b = cellOf a := ⟨_, rfl⟩
  obtain ⟨r, hr⟩ : ∃ r, r = a % 8 := ⟨_, rfl⟩
  have hr8 : r < 8 := by omega
  have K54 : Hid (Calls Try.prog 52 #[.agg #[vm, vc], .int .u64 (b : Int)] W fun e w'' => e = .returned (.int .u64 ((wordN cs b : Nat) : Int)) ∧ Below W.heap.size W w'') := by
    have h := word54 vc vm cs b W (hc.keep hb) (by obtain ⟨a, p, h, _⟩ := hm; exact ⟨_, _, _, h⟩)
    rw [wordOf_eq cs hw] at h
    exact h
  have hwl := wordN_lt cs hw b
  have hpw := pow_le r hr8
  have hpw0 : 0 < 2 ^ (8 * r) := Nat.pow_pos (by omega)
  obtain ⟨wd, hwd⟩ : ∃ x, x = pokeW cs a bt := ⟨_, rfl⟩
  rw [← hbb, ← hwd]
  obtain ⟨zs, hzs⟩ : ∃ z, z = pokeL cs b wd := ⟨_, rfl⟩
  rw [← hzs]
  have HEND : Hid ((metB b wd cs = true → outL b wd cs = zs) ∧ (metB b wd cs = false → outL b wd cs ++ [(b, (wd : Int))] = zs)) := by rw [hzs]; exact out_end cs b wd
  have hwd' : wd = clr (wordN cs b) (255 * 2 ^ (8 * r)) ||| bt * 2 ^ (8 * r) := by rw [hwd, pokeW, hbb, hr]
  obtain ⟨am, nm, pm, rfl⟩ : ∃ a n p, vm = .slice a n p := by obtain ⟨a, p, h, _⟩ := hm; exact ⟨_, _, _, h⟩
  obtain ⟨ac, pc, rfl, z1, z2, z4⟩ : ∃ ao cap, vc = .slice ao cs.length cap ∧ cs.length ≤ cap ∧ cap ≤ 9223372036854775807 ∧ ∀ i (h : i < cs.length), ∃ b o, ao = some ⟨b, o, none⟩ ∧ W.cell? ⟨b, o + i * 2, none⟩ = some (.int .u64 (cs[i].1 : Int)) ∧ W.cell? ⟨b, o + i * 2 + 1, none⟩ = some (.int .u64 cs[i].2) := by
    obtain ⟨ao, cap, e, q1, q2, _, q4⟩ := hc.keep hb
    exact ⟨ao, cap, e, q1, q2, q4⟩
  have HX : Hid (∀ i (h : i < cs.length), ∃ b o, ac = some ⟨b, o, none⟩ ∧ W.cell? ⟨b, o + i * 2, none⟩ = some (.int .u64 (cs[i].1 : Int)) ∧ W.cell? ⟨b, o + i * 2 + 1, none⟩ = some (.int .u64 cs[i].2)) := z4
  have HS : Hid (∀ m (h : m < cs.length), ∀ y ∈ cs.take m, y.1 < (cs[m]).1) := fun m hm y hy => by
    rw [Srt, List.pairwise_iff_getElem] at sc
    obtain ⟨j, hj, rfl⟩ := List.getElem_of_mem hy
    simp at hj ⊢
    exact sc j m (by omega) hm (by omega)
  obtain ⟨i0, hi, hz0, hz1, hz2⟩ := info_parts info58
  have HI : Hid (Try.prog.info? 85 = some i0 ∧ i0.zero = some (.agg #[.int .u64 0, .int .u64 0]) ∧ i0.size = 2 ∧ i0.bytes = 16) := ⟨hi, hz0, hz1, hz2⟩
  clear hi hz0 hz1 hz2
  generalize wordN cs b = ow at K54 hwl hwd'
  have x1 : ((a : Int)).tmod 8 = (r : Int) := by rw [Int.tmod_eq_emod_of_nonneg (by omega)]; omega
  have x2 : IntKind.u64.wrap ((a : Int) - (r : Int)) = (b : Int) := by rw [IntKind.wrap_u64, hbb]; unfold cellOf; omega
  have x3 : IntKind.u64.wrap (8 * (r : Int)) = ((8 * r : Nat) : Int) := by rw [IntKind.wrap_u64]; omega
  obtain ⟨s8, hs8⟩ : ∃ s, s = 8 * r := ⟨_, rfl⟩
  rw [← hs8] at x3 hpw hpw0 hwd'
  obtain ⟨P, hP⟩ : ∃ P, P = 2 ^ s8 := ⟨_, rfl⟩
  rw [← hP] at hpw hpw0 hwd'
  have x4 : IntKind.u64.wrap (255 * 2 ^ min s8 64) = ((255 * P : Nat) : Int) := by
    have h := shl64 255 s8 (by omega)
    rw [← hP, Nat.mod_eq_of_lt (by omega)] at h
    exact h
  have x5 : IntKind.u64.wrap ((bt : Int) * 2 ^ min s8 64) = ((bt * P : Nat) : Int) := by
    have hle : bt * P ≤ 255 * P := Nat.mul_le_mul_right _ (by omega)
    have h := shl64 bt s8 (by omega)
    rw [← hP, Nat.mod_eq_of_lt (by omega)] at h
    exact h
  have hle : bt * P ≤ 255 * P := Nat.mul_le_mul_right _ (by omega)
  obtain ⟨A1, hA1⟩ : ∃ x, x = 255 * P := ⟨_, rfl⟩
  obtain ⟨A2, hA2⟩ : ∃ x, x = bt * P := ⟨_, rfl⟩
  rw [← hA1] at x4 hwd' hle
  rw [← hA2] at x5 hwd' hle
  have x6 : bits .andNot .u64 (ow : Int) (A1 : Int) = ((clr ow A1 : Nat) : Int) := andNot64 ow A1 hwl (by omega)
  have hcl : clr ow A1 < 18446744073709551616 := Nat.lt_of_le_of_lt Nat.and_le_left hwl
  generalize clr ow A1 = C1 at x6 hwd' hcl
  have x7 : bits .or .u64 (C1 : Int) (A2 : Int) = (wd : Int) := by rw [or64 C1 A2 hcl (by omega), hwd']
  have x8 : IntKind.u64.wrap (bt : Int) = (bt : Int) := by rw [IntKind.wrap_u64]; omega
  have HWD : Hid (((wd : Int) == 0) = decide (wd = 0)) := by show _ = _; rw [Bool.eq_iff_iff]; simp
  have hwd0 := HWD.out
  have HME : Hid (metB b wd (cs.take 0) = decide (wd = 0)) := by simp [Hid, metB]
  clear hm hc sc hw z4 hbb hr hr8 hwl hpw hpw0 hwd hwd' hzs hs8 hP hle hA1 hA2 hcl ha hbt
  go_enter Try.func92, Try.ntmps92
  go_wp2_with fail
  refine K54.out.mono ?_
  rintro e w1 ⟨rfl, hb1⟩
  clear K54
  have c0' := keep_cell hb1 c0
  have c1' := keep_cell hb1 c1
  go_wp2
  go_loopw [10, 11, 12] (fun s d i wr => ∃ m : Nat, m ≤ cs.length ∧ i = .int .i64 (m : Int) ∧ d = .bool (metB b wd (cs.take m)) ∧ wr.ownsRow W.heap.size 85 2 s (outL b wd (cs.take m)).length (rowOf .u64 (outL b wd (cs.take m))) ∧ (outL b wd (cs.take m)).length ≤ m + 1 ∧ Below W.heap.size W wr) (fun _ _ i _ => cs.length - (intOf i).toNat)
  case atStart => exact ⟨0, Nat.zero_le _, rfl, by rw [HME.out], by rw [List.take_zero, out_nil]; exact World.ownsRow_nil w1 W.heap.size 85 2, by rw [List.take_zero, out_nil]; simp, hb1⟩
  case round =>
    clear hb1 c0' c1'
    obtain ⟨m, hmle, rfl, rfl, how, hlm, hbr⟩ := hrel
    have e0 := keep_cell hbr c0
    have e1 := keep_cell hbr c1
    have hWr := hbr.size
    by_cases hml : m < cs.length
    · obtain ⟨bb, o, rfl, D0, D1⟩ := HX.out m hml
      have hs := HS.out m hml
      have ht : cs.take (m + 1) = cs.take m ++ [cs[m]] := by rw [List.take_add_one, List.getElem?_eq_getElem hml]; rfl
      obtain ⟨p, hp⟩ : ∃ p, p = cs[m].1 := ⟨_, rfl⟩
      obtain ⟨rr, hrr⟩ : ∃ r, r = cs[m].2 := ⟨_, rfl⟩
      have hx : cs[m] = (p, rr) := by rw [hp, hrr]
      rw [hx] at ht hs
      rw [← hp] at D0
      rw [← hrr] at D1
      have d0 := keep_cell hbr D0
      have d1 := keep_cell hbr D1
      clear hp hrr hx
      by_cases k1 : p < b
      · obtain ⟨o1, o2⟩ := out_lt (b := b) (wd := wd) (x := (p, rr)) hs k1
        rw [← ht] at o1 o2
        have HOUT : Hid (outL b wd (cs.take (m + 1)) = outL b wd (cs.take m) ++ [(p, rr)] ∧ metB b wd (cs.take (m + 1)) = metB b wd (cs.take m)) := ⟨o1, o2⟩
        have n1 : ¬ (b : Int) ≤ (p : Int) := by omega
        have n2 : ((p : Int) != (b : Int)) = true := by simp; omega
        clear o1 o2 ht hs k1
        generalize outL b wd (cs.take m) = xs at how HOUT hlm
        generalize metB b wd (cs.take m) = mt at HOUT ⊢
        cases mt with
        | false =>
          go_wp2_with (at_builtin; refine wpList_append_own _ rfl (.tmp 66) (.tmp 72) 23 rfl W.heap.size 85 i0 _ 2 16 Try.underlying23 HI.out.1 HI.out.2.1 HI.out.2.2.1 HI.out.2.2.2 rfl (by decide) _ _ _ rfl (own_alloc how _) ⟨wr.heap.size, 0, none⟩ 1 1 [.int .u64 (p : Int), .int .u64 rr] rfl rfl (cells2 _ _ _ _) (one2 _ _ _) (by unfold maxLen; omega) (by omega) (by simp; omega) ?_; intro sv w2 how2 hgr2 _; obtain ⟨sa2, sn2, sp2, rfl⟩ := own_shape how2; have R2 := app_own how2; have B2 : Below W.heap.size W w2 := app_below _ hbr hWr hgr2 (own_ge how); have S2 := B2.size; have y20 := keep_cell B2 c0; have y21 := keep_cell B2 c1)
          go_roundw
          case rel => exact ⟨m + 1, by omega, by go_num, by rw [HOUT.out.2], by rw [HOUT.out.1]; exact R2, by rw [HOUT.out.1]; simp; omega, B2⟩
          case measure => simp [intOf]; omega
        | true =>
          go_wp2_with (at_builtin; refine wpList_append_own _ rfl (.tmp 66) (.tmp 72) 23 rfl W.heap.size 85 i0 _ 2 16 Try.underlying23 HI.out.1 HI.out.2.1 HI.out.2.2.1 HI.out.2.2.2 rfl (by decide) _ _ _ rfl (own_alloc how _) ⟨wr.heap.size, 0, none⟩ 1 1 [.int .u64 (p : Int), .int .u64 rr] rfl rfl (cells2 _ _ _ _) (one2 _ _ _) (by unfold maxLen; omega) (by omega) (by simp; omega) ?_; intro sv w2 how2 hgr2 _; obtain ⟨sa2, sn2, sp2, rfl⟩ := own_shape how2; have R2 := app_own how2; have B2 : Below W.heap.size W w2 := app_below _ hbr hWr hgr2 (own_ge how); have S2 := B2.size; have y20 := keep_cell B2 c0; have y21 := keep_cell B2 c1)
          go_roundw
          case rel => exact ⟨m + 1, by omega, by go_num, by rw [HOUT.out.2], by rw [HOUT.out.1]; exact R2, by rw [HOUT.out.1]; simp; omega, B2⟩
          case measure => simp [intOf]; omega
      · by_cases k2 : p = b
        · subst k2
          obtain ⟨o1, o2, o3⟩ := out_eq (b := p) (wd := wd) (x := (p, rr)) hs rfl
          rw [← ht] at o1 o2
          rw [o3]
          have n2 : ((p : Int) != (p : Int)) = false := by simp
          by_cases w0 : wd = 0
          · have HOUT : Hid (outL p wd (cs.take (m + 1)) = outL p wd (cs.take m) ∧ metB p wd (cs.take (m + 1)) = true) := ⟨by rw [o1, w0, cellIf_zero, List.append_nil], o2⟩
            rw [decide_eq_true w0]
            clear o1 o2 o3 ht hs k1
            generalize outL p wd (cs.take m) = xs at how HOUT hlm
            go_wp2
            go_roundw
            case rel => exact ⟨m + 1, by omega, by go_num, by rw [HOUT.out.2], by rw [HOUT.out.1]; exact how, by rw [HOUT.out.1]; omega, hbr⟩
            case measure => simp [intOf]; omega
          · have HOUT : Hid (outL p wd (cs.take (m + 1)) = outL p wd (cs.take m) ++ [(p, (wd : Int))] ∧ metB p wd (cs.take (m + 1)) = true) := ⟨by rw [o1, cellIf, if_neg w0], o2⟩
            rw [decide_eq_false w0]
            clear o1 o2 o3 ht hs k1
            generalize outL p wd (cs.take m) = xs at how HOUT hlm
            go_wp2_with (at_builtin; refine wpList_append_own _ rfl (.tmp 52) (.tmp 56) 23 rfl W.heap.size 85 i0 _ 2 16 Try.underlying23 HI.out.1 HI.out.2.1 HI.out.2.2.1 HI.out.2.2.2 rfl (by decide) _ _ _ rfl (own_alloc how _) ⟨wr.heap.size, 0, none⟩ 1 1 [.int .u64 (p : Int), .int .u64 (wd : Int)] rfl rfl (cells2 _ _ _ _) (one2 _ _ _) (by unfold maxLen; omega) (by omega) (by simp; omega) ?_; intro sv w2 how2 hgr2 _; obtain ⟨sa2, sn2, sp2, rfl⟩ := own_shape how2; have R2 := app_own how2; have B2 : Below W.heap.size W w2 := app_below _ hbr hWr hgr2 (own_ge how); have S2 := B2.size; have y20 := keep_cell B2 c0; have y21 := keep_cell B2 c1; have d20 := keep_cell B2 D0; have d21 := keep_cell B2 D1)
            go_roundw
            case rel => exact ⟨m + 1, by omega, by go_num, by rw [HOUT.out.2], by rw [HOUT.out.1]; exact R2, by rw [HOUT.out.1]; simp; omega, B2⟩
            case measure => simp [intOf]; omega
        · obtain ⟨o1, o2⟩ := out_gt (b := b) (wd := wd) (x := (p, rr)) (show b < p by omega) (met_or (cs.take m))
          rw [← ht] at o1 o2
          have n1 : (b : Int) ≤ (p : Int) := by omega
          have n2 : ((p : Int) != (b : Int)) = true := by simp; omega
          cases hmt : metB b wd (cs.take m) with
          | true =>
            rw [hmt, if_pos rfl, List.append_nil] at o1
            have HOUT : Hid (outL b wd (cs.take (m + 1)) = outL b wd (cs.take m) ++ [(p, rr)] ∧ metB b wd (cs.take (m + 1)) = true) := ⟨o1, o2⟩
            clear o1 o2 ht hs k1 k2 hmt
            generalize outL b wd (cs.take m) = xs at how HOUT hlm
            go_wp2_with (at_builtin; refine wpList_append_own _ rfl (.tmp 66) (.tmp 72) 23 rfl W.heap.size 85 i0 _ 2 16 Try.underlying23 HI.out.1 HI.out.2.1 HI.out.2.2.1 HI.out.2.2.2 rfl (by decide) _ _ _ rfl (own_alloc how _) ⟨wr.heap.size, 0, none⟩ 1 1 [.int .u64 (p : Int), .int .u64 rr] rfl rfl (cells2 _ _ _ _) (one2 _ _ _) (by unfold maxLen; omega) (by omega) (by simp; omega) ?_; intro sv w2 how2 hgr2 _; obtain ⟨sa2, sn2, sp2, rfl⟩ := own_shape how2; have R2 := app_own how2; have B2 : Below W.heap.size W w2 := app_below _ hbr hWr hgr2 (own_ge how); have S2 := B2.size; have y20 := keep_cell B2 c0; have y21 := keep_cell B2 c1)
            go_roundw
            case rel => exact ⟨m + 1, by omega, by go_num, by rw [HOUT.out.2], by rw [HOUT.out.1]; exact R2, by rw [HOUT.out.1]; simp; omega, B2⟩
            case measure => simp [intOf]; omega
          | false =>
            have hw0 : wd ≠ 0 := by
              intro e; rw [e, metB] at hmt; simp at hmt
            rw [hmt, if_neg (by simp), cellIf, if_neg hw0] at o1
            have HLEN : Hid ((outL b wd (cs.take m)).length ≤ m) := by
              show _ ≤ _
              rcases met_or (b := b) (wd := wd) (cs.take m) with q | q
              · rw [hmt] at q; cases q
              · rw [outL, hmt, hi_nil (fun y hy => by have := q y hy; omega)]
                have := lo_len (cs.take m) b
                have h2 : (cs.take m).length ≤ m := by simp; omega
                simp; omega
            have hlm := HLEN.out
            have HOUT : Hid (outL b wd (cs.take (m + 1)) = outL b wd (cs.take m) ++ [(b, (wd : Int))] ++ [(p, rr)] ∧ metB b wd (cs.take (m + 1)) = true) := ⟨o1, o2⟩
            clear o1 o2 ht hs k1 k2 hmt HLEN hw0
            generalize outL b wd (cs.take m) = xs at how HOUT hlm
            go_wp2_with (first | (at_builtin; refine wpList_append_own _ rfl (.tmp 52) (.tmp 56) 23 rfl W.heap.size 85 i0 _ 2 16 Try.underlying23 HI.out.1 HI.out.2.1 HI.out.2.2.1 HI.out.2.2.2 rfl (by decide) _ _ _ rfl (own_alloc how _) ⟨wr.heap.size, 0, none⟩ 1 1 [.int .u64 (b : Int), .int .u64 (wd : Int)] rfl rfl (cells2 _ _ _ _) (one2 _ _ _) (by unfold maxLen; omega) (by omega) (by simp; omega) ?_; intro sv w2 how2 hgr2 _; obtain ⟨sa2, sn2, sp2, rfl⟩ := own_shape how2; have R2 := app_own how2; have B2 : Below W.heap.size W w2 := app_below _ hbr hWr hgr2 (own_ge how); have S2 := B2.size; have y20 := keep_cell B2 c0; have y21 := keep_cell B2 c1; have d20 := keep_cell B2 D0; have d21 := keep_cell B2 D1; have hl2 : (xs ++ [(b, (wd : Int))]).length ≤ m + 1 := (by simp; omega)) | (at_builtin; refine wpList_append_own _ rfl (.tmp 66) (.tmp 72) 23 rfl W.heap.size 85 i0 _ 2 16 Try.underlying23 HI.out.1 HI.out.2.1 HI.out.2.2.1 HI.out.2.2.2 rfl (by decide) _ _ _ rfl (own_alloc R2 _) ⟨w2.heap.size, 0, none⟩ 1 1 [.int .u64 (p : Int), .int .u64 rr] rfl rfl (cells2 _ _ _ _) (one2 _ _ _) (by unfold maxLen; omega) (by omega) (by simp; omega) ?_; intro sv w3 how3 hgr3 _; obtain ⟨sa3, sn3, sp3, rfl⟩ := own_shape how3; have R3 := app_own how3; have B3 : Below W.heap.size W w3 := app_below _ B2 S2 hgr3 (own_ge R2); have S3 := B3.size; have y30 := keep_cell B3 c0; have y31 := keep_cell B3 c1))
            go_roundw
            case rel => exact ⟨m + 1, by omega, by go_num, by rw [HOUT.out.2], by rw [HOUT.out.1]; exact R3, by rw [HOUT.out.1]; simp; omega, B3⟩
            case measure => simp [intOf]; omega
    · obtain rfl : m = cs.length := by omega
      rw [List.take_length] at how hlm ⊢
      cases hmt : metB b wd cs with
      | true =>
        rw [HEND.out.1 hmt] at how
        clear hmt hlm
        obtain ⟨sa2, sn2, sp2, rfl⟩ := own_shape how
        have f0 := g0.keep hbr
        have f1 := g1.keep hbr
        have fh := h1.keep hbr
        have q0 := f0.cell
        have q1 := f1.cell
        have q2 := f0.frozen
        have q3 := f1.frozen
        have q4 := fh.frozen
        have y0 := keep_cell hbr c0
        have y1 := keep_cell hbr c1
        have hbw := below_tr hb hbr
        obtain ⟨WA, hWA⟩ : ∃ WA, wr.setCell ⟨w.heap.size, 1, none⟩ (.slice sa2 sn2 sp2) = WA := ⟨_, rfl⟩
        have F0 : Free WA ⟨w.heap.size + 1, 0, none⟩ := by rw [← hWA]; exact f0.set _ _
        have F1 : Free WA ⟨w.heap.size + 1, 1, none⟩ := by rw [← hWA]; exact f1.set _ _
        have u0 : WA.cell? ⟨w.heap.size, 0, none⟩ = some (.slice am nm pm) := by rw [← hWA, World.cell?_setCell_other _ _ _ _ (by simp)]; exact y0
        have u1 : WA.cell? ⟨w.heap.size, 1, none⟩ = some (.slice sa2 sn2 sp2) := by rw [← hWA]; exact World.cell?_setCell_same _ _ _ fh.cell
        have i0' := F0.cell
        have i1' := F1.cell
        have i2' := F0.frozen
        have i3' := F1.frozen
        have SM : Hid (World.ownsRow ((WA.setCell ⟨w.heap.size + 1, 0, none⟩ (.slice am nm pm)).setCell ⟨w.heap.size + 1, 1, none⟩ (.slice sa2 sn2 sp2)) w.heap.size 85 2 (.slice sa2 sn2 sp2) zs.length (rowOf .u64 zs)) := by
          rw [← hWA]
          exact res2_own (ownsRow_setCell_below how (by simp; omega) _) (by omega) (by omega)
        have SB : Hid (Below w.heap.size w ((WA.setCell ⟨w.heap.size + 1, 0, none⟩ (.slice am nm pm)).setCell ⟨w.heap.size + 1, 1, none⟩ (.slice sa2 sn2 sp2))) := by
          rw [← hWA]
          exact below_set (below_set (below_set hbw (by simp) _) (by simp) _) (by simp) _
        clear how
        go_wp2
        (try simp only [Exit.inBlock, Exit.then])
        obtain ⟨r0, r1⟩ := res2 WA (w.heap.size + 1) (.slice am nm pm) (.slice sa2 sn2 sp2) F0 F1
        refine bodyPost_ret (v := .agg #[.slice am nm pm, .slice sa2 sn2 sp2]) ?_ rfl ⟨_, rfl, SM.out, SB.out⟩
        rw [results_cell1 rfl]; simp [go_sem, r0, r1]
      | false =>
        have HP : Hid (outL b wd cs ++ [(b, (wd : Int))] = zs) := HEND.out.2 hmt
        clear hmt
        generalize outL b wd cs = xs at how HP hlm
        have hq1 := h1
        go_wp2_with (at_builtin; refine wpList_append_own _ rfl (.tmp 76) (.tmp 80) 23 rfl W.heap.size 85 i0 _ 2 16 Try.underlying23 HI.out.1 HI.out.2.1 HI.out.2.2.1 HI.out.2.2.2 rfl (by decide) _ _ _ rfl (own_alloc how _) ⟨wr.heap.size, 0, none⟩ 1 1 [.int .u64 (b : Int), .int .u64 (wd : Int)] rfl rfl (cells2 _ _ _ _) (one2 _ _ _) (by unfold maxLen; omega) (by omega) (by simp; omega) ?_; intro sv w2 how2 hgr2 _; obtain ⟨sa2, sn2, sp2, rfl⟩ := own_shape how2; have R2 := app_own how2; have B2 : Below W.heap.size W w2 := app_below _ hbr hWr hgr2 (own_ge how); have S2 := B2.size; have R2z := R2; rw [HP.out] at R2z; have f0 := g0.keep B2; have f1 := g1.keep B2; have fh := h1.keep B2; have q0 := f0.cell; have q1 := f1.cell; have q2 := f0.frozen; have q3 := f1.frozen; have q4 := fh.frozen; have y0 := keep_cell B2 c0; have y1 := keep_cell B2 c1; have hbw := below_tr hb B2; obtain ⟨WA, hWA⟩ : ∃ WA, w2.setCell ⟨w.heap.size, 1, none⟩ (.slice sa2 sn2 sp2) = WA := ⟨_, rfl⟩; have F0 : Free WA ⟨w.heap.size + 1, 0, none⟩ := (by rw [← hWA]; exact f0.set _ _); have F1 : Free WA ⟨w.heap.size + 1, 1, none⟩ := (by rw [← hWA]; exact f1.set _ _); have u0 : WA.cell? ⟨w.heap.size, 0, none⟩ = some (.slice am nm pm) := (by rw [← hWA, World.cell?_setCell_other _ _ _ _ (by simp)]; exact y0); have u1 : WA.cell? ⟨w.heap.size, 1, none⟩ = some (.slice sa2 sn2 sp2) := (by rw [← hWA]; exact World.cell?_setCell_same _ _ _ fh.cell); have i0' := F0.cell; have i1' := F1.cell; have i2' := F0.frozen; have i3' := F1.frozen; have SM : Hid (World.ownsRow ((WA.setCell ⟨w.heap.size + 1, 0, none⟩ (.slice am nm pm)).setCell ⟨w.heap.size + 1, 1, none⟩ (.slice sa2 sn2 sp2)) w.heap.size 85 2 (.slice sa2 sn2 sp2) zs.length (rowOf .u64 zs)) := (by rw [← hWA]; exact res2_own (ownsRow_setCell_below R2z (by simp; omega) _) (by omega) (by omega)); have SB : Hid (Below w.heap.size w ((WA.setCell ⟨w.heap.size + 1, 0, none⟩ (.slice am nm pm)).setCell ⟨w.heap.size + 1, 1, none⟩ (.slice sa2 sn2 sp2))) := (by rw [← hWA]; exact below_set (below_set (below_set hbw (by simp) _) (by simp) _) (by simp) _); clear R2z)
        (try simp only [Exit.inBlock, Exit.then])
        obtain ⟨r0, r1⟩ := res2 WA (w.heap.size + 1) (.slice am nm pm) (.slice sa2 sn2 sp2) F0 F1
        refine bodyPost_ret (v := .agg #[.slice am nm pm, .slice sa2 sn2 sp2]) ?_ rfl ⟨_, rfl, SM.out, SB.out⟩
        rw [results_cell1 rfl]; simp [go_sem, r0, r1]
end Go.Proofs.Ytdhjmghfiodifaa
