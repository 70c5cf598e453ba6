/- What is proved here: there and back: the walk of ElfBack. -/
import Derived.Test.YthhallhmolgpbaaAw
import Derived.Test.YthhallhmolgpbaaSl
import Derived.Test.YthhallhmolgpbaaOpn
import Derived.Test.YthhallhmolgpbaaWRef
namespace Go.Proofs.Ythhallhmolgpbaa
open Go.RowKit
set_option linter.unusedVariables false
set_option linter.unusedSimpArgs false
set_option maxRecDepth 100000
/-- The greatest of a number and the segments' ends. -/
def mxN (m : Nat) (gs : List Sg) : Nat := gs.foldl (fun m g => if m < g.off + g.size then g.off + g.size else m) m
theorem mx_snoc (m : Nat) (gs : List Sg) (g : Sg) : mxN m (gs ++ [g]) = if mxN m gs < g.off + g.size then g.off + g.size else mxN m gs := by unfold mxN; rw [List.foldl_append]; rfl
theorem mx_ge : ∀ (gs : List Sg) (m : Nat), m ≤ mxN m gs ∧ ∀ g ∈ gs, g.off + g.size ≤ mxN m gs
  | [], m => ⟨Nat.le_refl _, fun g h => by cases h⟩
  | a :: t, m => by
    have h := mx_ge t (if m < a.off + a.size then a.off + a.size else m)
    have e : mxN m (a :: t) = mxN (if m < a.off + a.size then a.off + a.size else m) t := rfl
    rw [e]
    refine ⟨Nat.le_trans (by split <;> omega) h.1, fun g hg => ?_⟩
    rcases List.mem_cons.1 hg with rfl | hg
    · exact Nat.le_trans (by split <;> omega) h.1
    · exact h.2 g hg
theorem mx_lt (gs : List Sg) (hb : ∀ g ∈ gs, g.Bd) : ∀ m, m < 8589934592 → mxN m gs < 8589934592 := by
  induction gs with
  | nil => intro m hm; exact hm
  | cons a t ih =>
    intro m hm
    have h1 := (hb a List.mem_cons_self).o
    have h2 := (hb a List.mem_cons_self).s
    exact ih (fun g hg => hb g (List.mem_cons_of_mem _ hg)) _ (by show (if m < a.off + a.size then a.off + a.size else m) < _; split <;> omega)
theorem mkZ (n : Nat) (hn : n ≤ 20000) (w : World) : (Instr.makeSlice 40 (.int .i64 (n : Int)) (.int .i64 (n : Int))).run Try.prog w = .ok (.slice (some ⟨w.heap.size, 0, none⟩) n n) (w.alloc (.cells (W.zeroRow n).toArray 5)) := by
  have h := run_make_row' (P := Try.prog) 40 5 (.int .u8 0) 1 Try.underlying40 (by kernel_rfl) rfl .i64 .i64 n (by omega) (by omega) w
  rw [h]
  have e : madeCells #[.int .u8 0] n = (W.zeroRow n).toArray := by
    apply Array.ext
    · simp [size_madeCells, W.zeroRow]
    · intro i h1 h2
      simp [madeCells, W.zeroRow, Nat.mod_one]
  rw [e]
def zL (n : Nat) : L8 := List.replicate n 0
theorem convZ (n : Nat) (w : World) : (convert 40 9 (.slice (some ⟨w.heap.size, 0, none⟩) n n)).run Try.prog (w.alloc (.cells (W.zeroRow n).toArray 5)) = .ok (.string ⟨(zL n).toArray⟩) (w.alloc (.cells (W.zeroRow n).toArray 5)) := by
  have e : (zL n).map W.byteC = W.zeroRow n := by unfold zL W.zeroRow; rw [List.map_replicate]; rfl
  have h := W.conv_row (w.alloc (.cells (W.zeroRow n).toArray 5)) w.heap.size n (zL n) (by rw [e]; exact World.alloc_heap_new w _)
  rw [show (zL n).length = n from by unfold zL; simp] at h
  exact h
set_option maxHeartbeats 8000000 in
theorem back_walk (a : Ef) (va : Value) (l : L8) (w : World) (hsa : SlG w va a.segs) (ha : ∀ g ∈ a.segs, g.Bd) (ea : a.entry < 4294967296) :
    Calls Try.prog 5 #[a.val va, .string ⟨l.toArray⟩] w fun e w' => e = .returned (.bool true) ∧ Below w.heap.size w w' := by
  obtain ⟨W1, hW1, hb1, hz1, q0, q1, q2⟩ := box3 w (.bool a.shared) (.int .u32 (a.entry : Int)) va 26
  have HB3 : B3 (.bool a.shared) (.int .u32 (a.entry : Int)) va w.heap.size W1 := by rw [← hW1]; exact World.alloc_heap_new w _
  obtain ⟨S, hS⟩ : ∃ S : ByteArray, S = ⟨l.toArray⟩ := ⟨_, rfl⟩
  have hSl : S.toList = l := by rw [hS]; exact bal l
  have hSz : S.size = l.length := by rw [← bt_len, hSl]
  have KA : Hid (∀ w', Calls Try.prog 7 #[] w' fun e w'' => e = .returned (.bool true) ∧ Below w'.heap.size w' w'') := awake7
  have sa := hsa.keep hb1
  obtain ⟨ao, ac, rfl, x1, x2, x3, x4⟩ := hsa
  have HB1 : Hid (Below w.heap.size w W1 ∧ B3 (.bool a.shared) (.int .u32 (a.entry : Int)) (.slice ao a.segs.length ac) w.heap.size W1 ∧ SlG W1 (.slice ao a.segs.length ac) a.segs) := ⟨hb1, HB3, sa⟩
  have HBD : Hid (∀ g ∈ a.segs, g.Bd) := ha
  have HEA : Hid (a.entry < 4294967296) := ea
  unfold Ef.val
  rw [← hS]
  clear x4 x3 hb1 hz1 HB3 sa ha ea
  by_cases h1 : 40 < a.segs.length
  · have i1 : (40 : Int) < (a.segs.length : Int) := by omega
    have d1 := decide_eq_true i1
    clear h1 hS hSl hSz
    go_enter Try.func5, Try.ntmps5
    go_wp2_with fail
    refine (KA.out W1).mono ?_
    rintro e w1 ⟨rfl, hb1⟩
    go_wp2
    go_ret
    exact ⟨rfl, below_tr HB1.out.1 hb1⟩
  have i1 : ¬ (40 : Int) < (a.segs.length : Int) := by omega
  have d1 := decide_eq_false i1
  by_cases h2 : 20000 < l.length
  · have i2 : (20000 : Int) < (S.size : Int) := by omega
    have d2 := decide_eq_true i2
    clear h1 h2 hS hSl hSz
    go_enter Try.func5, Try.ntmps5
    go_wp2_with fail
    refine (KA.out W1).mono ?_
    rintro e w1 ⟨rfl, hb1⟩
    go_wp2
    go_ret
    exact ⟨rfl, below_tr HB1.out.1 hb1⟩
  have i2 : ¬ (20000 : Int) < (S.size : Int) := by omega
  have d2 := decide_eq_false i2
  have K8 := par_at l (by omega) W1
  rw [← hS] at K8
  by_cases h3 : parE l = 0
  · have hF : parF l = efAt l := by unfold parF; rw [if_pos h3]
    obtain ⟨hw1, hw2⟩ := parse_write (par_zero h3).1
    obtain ⟨_, _, _, _, _, g6⟩ := hd_zero (par_zero h3).1
    have hn16 := (fitE_parts g6).1
    rw [hF, h3] at K8
    have HS2 : Hid (segsAt l (hf l 44) = (efAt l).segs) := rfl
    have K15b : Hid (∀ w' v, SlG w' v (efAt l).segs → Calls Try.prog 15 #[.agg #[.bool (efAt l).shared, .int .u32 ((efAt l).entry : Int), v]] w' fun r w'' => r = .returned (.string ⟨(wrL (efAt l)).toArray⟩) ∧ Below w'.heap.size w' w'') := fun w' v h => write15 (efAt l) v w' h (segsAt_bd l _) (wd_lt _ _) (by omega)
    have K14b : Hid (∀ w' v, SlG w' v (efAt l).segs → Calls Try.prog 14 #[.agg #[.bool (efAt l).shared, .int .u32 ((efAt l).entry : Int), v]] w' fun r w'' => r = .returned (.bool true) ∧ Below w'.heap.size w' w'') := fun w' v h => by
      have := rfit14 (efAt l) v w' h (segsAt_bd l _) (by omega)
      rw [g6] at this
      exact this
    obtain ⟨TB, hTB⟩ : ∃ T : ByteArray, T = ⟨(wrL (efAt l)).toArray⟩ := ⟨_, rfl⟩
    rw [← hTB] at K15b
    have hTl : TB.toList = l.take (52 + 32 * (efAt l).segs.length) := by rw [hTB, bal, hw1]
    have hTz : TB.size = 52 + 32 * (efAt l).segs.length := by rw [← bt_len, hTl, List.length_take]; omega
    have hex : S.extract 0 TB.size = TB := by
      rw [ext_list, hSl, List.drop_zero, hTz, ← hTl, ByteArray.toList_eq]
    obtain ⟨N, hN⟩ : ∃ N, N = (efAt l).segs.length := ⟨_, rfl⟩
    have e1 : (TB.size : Int) = 52 + 32 * (N : Int) := by rw [hTz, hN]; omega
    have hle : ¬ (S.size : Int) < (TB.size : Int) := by omega
    have hle2 : TB.size ≤ S.size := by omega
    have iTB : (TB.size : Int) ≤ 20000 := by omega
    have iN : (N : Int) ≤ 16 := by omega
    have bq : (TB.toList == TB.toList) = true := beq_self_eq_true _
    have bn : (TB.toList != TB.toList) = false := bne_self_eq_false _
    have bz : ((TB.size : Int) != 52 + 32 * (N : Int)) = false := by rw [e1]; exact bne_self_eq_false _
    have HE1 : Hid ((TB.size : Int) = 52 + 32 * (N : Int)) := e1
    have sl : ∀ W', (Instr.slice 9 (.string S) none (some (.int .i64 (TB.size : Int))) none).run Try.prog W' = .ok (.string TB) W' := fun W' => by
      have h := (run_slice_string_h (P := Try.prog) W' 9 S Try.underlying9 .i64 (TB.size : Int) (by omega) (by omega))
      rw [h, Int.toNat_natCast, hex]
    generalize (efAt l).segs = BS at *
    generalize (efAt l).shared = SH at *
    generalize (efAt l).entry = EN at *
    clear hF hw1 hw2 g6 hTB hTl hTz hex hS hSl hSz h3 hn16 HS2 e1
    rw [← hN] at K8
    clear hN
    go_enter Try.func5, Try.ntmps5
    go_wp2_with fail
    refine K8.mono ?_
    rintro e x1 ⟨⟨bo, bc, rfl, hs1⟩, hb1⟩
    clear q0 q1 q2 hW1
    obtain ⟨V2, W2, hV2, hW2, ⟨q0, q1, q2⟩, ⟨f0, f1, f2⟩, e2, hb2, hz2⟩ := new3 x1 (.bool SH) (.int .u32 (EN : Int)) (.slice bo N bc)
    have H2 : Hid (Below w.heap.size w W2 ∧ B3 (.bool a.shared) (.int .u32 (a.entry : Int)) (.slice ao a.segs.length ac) w.heap.size W2 ∧ SlG W2 (.slice ao a.segs.length ac) a.segs ∧ B3 (.bool SH) (.int .u32 (EN : Int)) (.slice bo N bc) x1.heap.size W2 ∧ SlG W2 (.slice bo N bc) BS) := ⟨below_tr (below_tr HB1.out.1 hb1) hb2, (HB1.out.2.1.keep hb1).keep hb2, (HB1.out.2.2.keep hb1).keep hb2, e2, hs1.keep hb2⟩
    obtain ⟨c0, c1, c2⟩ := e2.cells
    clear K8 hs1 hb1 hb2 e2 hz2 HB1
    go_wp2_with fail
    refine (K15b.out W2 _ H2.out.2.2.2.2).mono ?_
    rintro e x3 ⟨rfl, hb3⟩
    clear q0 q1 q2 f0 f1 f2 hV2 hW2 c0 c1 c2
    have H3 : Hid (Below w.heap.size w x3 ∧ B3 (.bool a.shared) (.int .u32 (a.entry : Int)) (.slice ao a.segs.length ac) w.heap.size x3 ∧ SlG x3 (.slice ao a.segs.length ac) a.segs ∧ B3 (.bool SH) (.int .u32 (EN : Int)) (.slice bo N bc) x1.heap.size x3 ∧ SlG x3 (.slice bo N bc) BS) := by
      obtain ⟨k1, k2, k3, k4, k5⟩ := H2.out
      exact ⟨below_tr k1 hb3, k2.keep hb3, k3.keep hb3, k4.keep hb3, k5.keep hb3⟩
    obtain ⟨c0, c1, c2⟩ := H3.out.2.2.2.1.cells
    clear hb3 H2
    go_wp2_with fail
    refine (K14b.out x3 _ H3.out.2.2.2.2).mono ?_
    rintro e x4 ⟨rfl, hb4⟩
    clear c0 c1 c2
    have H4 : Hid (Below w.heap.size w x4 ∧ B3 (.bool a.shared) (.int .u32 (a.entry : Int)) (.slice ao a.segs.length ac) w.heap.size x4 ∧ SlG x4 (.slice ao a.segs.length ac) a.segs ∧ B3 (.bool SH) (.int .u32 (EN : Int)) (.slice bo N bc) x1.heap.size x4) := by
      obtain ⟨k1, k2, k3, k4, k5⟩ := H3.out
      exact ⟨below_tr k1 hb4, k2.keep hb4, k3.keep hb4, k4.keep hb4⟩
    obtain ⟨c0, c1, c2⟩ := H4.out.2.2.2.cells
    have HX : Hid (Below w.heap.size w x4 ∧ B3 (.bool a.shared) (.int .u32 (a.entry : Int)) (.slice ao a.segs.length ac) w.heap.size x4 ∧ SlG x4 (.slice ao a.segs.length ac) a.segs) := ⟨H4.out.1, H4.out.2.1, H4.out.2.2.1⟩
    clear hb4 H3 H4 K14b K15b
    obtain ⟨q0, q1, q2⟩ := HX.out.2.1.cells
    have K15 := write15 a (.slice ao a.segs.length ac) x4 HX.out.2.2 HBD.out HEA.out (by omega)
    unfold Ef.val at K15
    go_wp2_with fail
    refine K15.mono ?_
    rintro e y1 ⟨rfl, hb1⟩
    clear K15 q0 q1 q2
    have H1 : Hid (Below w.heap.size w y1 ∧ B3 (.bool a.shared) (.int .u32 (a.entry : Int)) (.slice ao a.segs.length ac) w.heap.size y1 ∧ SlG y1 (.slice ao a.segs.length ac) a.segs) := ⟨below_tr HX.out.1 hb1, HX.out.2.1.keep hb1, HX.out.2.2.keep hb1⟩
    clear hb1 HX
    obtain ⟨q0, q1, q2⟩ := H1.out.2.1.cells
    have K14 := rfit14 a (.slice ao a.segs.length ac) y1 H1.out.2.2 HBD.out (by omega)
    unfold Ef.val at K14
    cases hfa : fitE a with
    | false =>
      rw [hfa] at K14
      have hwe : wrL a = [] := by unfold wrL; rw [hfa, if_neg (by decide)]
      rw [hwe]
      go_wp2_with fail
      refine K14.mono ?_
      rintro e y2 ⟨rfl, hb2⟩
      have HB2 : Hid (Below w.heap.size w y2) := below_tr H1.out.1 hb2
      clear K14 q0 q1 q2 hb2
      go_wp2_with fail
      refine (KA.out y2).mono ?_
      rintro e y3 ⟨rfl, hb3⟩
      go_wp2
      go_ret
      exact ⟨rfl, below_tr HB2.out hb3⟩
    | true =>
      rw [hfa] at K14
      have hwl : (wrL a).length = 52 + 32 * a.segs.length := by unfold wrL; rw [if_pos hfa, List.length_append, headB_len, flat_len]
      obtain ⟨T, hT⟩ : ∃ T : ByteArray, T = ⟨(wrL a).toArray⟩ := ⟨_, rfl⟩
      have hTz : T.size = 52 + 32 * a.segs.length := by rw [hT]; show (wrL a).toArray.size = _; rw [List.size_toArray, hwl]
      rw [← hT]
      have HTQ : Hid (T.size = 52 + 32 * a.segs.length ∧ T = ⟨(wrL a).toArray⟩ ∧ (wrL a).length = 52 + 32 * a.segs.length) := ⟨hTz, hT, hwl⟩
      clear hT hTz hwl
      go_wp2_with fail
      refine K14.mono ?_
      rintro e y2 ⟨rfl, hb2⟩
      have H2 : Hid (Below w.heap.size w y2 ∧ B3 (.bool a.shared) (.int .u32 (a.entry : Int)) (.slice ao a.segs.length ac) w.heap.size y2 ∧ SlG y2 (.slice ao a.segs.length ac) a.segs) := ⟨below_tr H1.out.1 hb2, H1.out.2.1.keep hb2, H1.out.2.2.keep hb2⟩
      clear K14 q0 q1 q2 hb2 H1
      obtain ⟨q0, q1, q2⟩ := H2.out.2.1.cells
      have iT : (T.size : Int) ≤ 2000 := by have := HTQ.out.1; omega
      have eT : (T.size : Int) % 18446744073709551616 = (T.size : Int) := by omega
      have eTw : IntKind.u64.wrap (T.size : Int) = (T.size : Int) := by rw [IntKind.wrap_u64]; exact eT
      obtain ⟨GS, hGS⟩ : ∃ g, g = a.segs := ⟨_, rfl⟩
      have HGS : Hid (GS = a.segs) := hGS
      have HSL : Hid (∃ ao' cap', Value.slice ao GS.length ac = .slice ao' GS.length cap' ∧ ∀ i (h : i < GS.length), ∃ b o, ao' = some ⟨b, o, none⟩ ∧ At7 y2 b (o + i * 7) GS[i]) := by
        rw [hGS]
        obtain ⟨ao', cap', he, _, _, _, h4⟩ := H2.out.2.2
        exact ⟨ao', cap', he, h4⟩
      have HBG : Hid (∀ g ∈ GS, g.Bd) := by rw [hGS]; exact HBD.out
      have HT0 : Hid (T.size = mxN T.size (GS.take 0)) := by rw [List.take_zero]; exact rfl
      have HTZ : Hid (T.size = 52 + 32 * GS.length ∧ T = ⟨(wrL a).toArray⟩ ∧ (wrL a).length = 52 + 32 * GS.length ∧ GS.length ≤ 40) := by rw [hGS]; exact ⟨HTQ.out.1, HTQ.out.2.1, HTQ.out.2.2, by omega⟩
      rw [← hGS] at q2 ⊢
      have hgl : (GS.length : Int) ≤ 40 := by rw [hGS]; omega
      have HQ : Hid (y2.cell? ⟨w.heap.size, 0, none⟩ = some (.bool a.shared) ∧ y2.cell? ⟨w.heap.size, 1, none⟩ = some (.int .u32 (a.entry : Int)) ∧ y2.cell? ⟨w.heap.size, 2, none⟩ = some (.slice ao GS.length ac)) := ⟨q0, q1, q2⟩
      clear hGS h1 h2 HTQ
      go_wp2
      clear q0 q1 q2 eT eTw
      go_loopw [9, 81] (fun x y wr => ∃ k : Nat, x = .int .u64 ((mxN T.size (GS.take k) : Nat) : Int) ∧ y = .int .i64 (k : Int) ∧ k ≤ GS.length ∧ Below y2.heap.size y2 wr) (fun _ y _ => GS.length - (intOf y).toNat)
      case atStart => exact ⟨0, by first | (rw [← HT0.out]; done) | (rw [← HT0.out]; rfl), rfl, Nat.zero_le _, Below.refl _ _⟩
      case round =>
        obtain ⟨k, rfl, rfl, hk, hbr⟩ := hrel
        have HBR : Hid (Below y2.heap.size y2 wr) := hbr
        by_cases hlt : k < GS.length
        · obtain ⟨ao', cap', he, h4⟩ := HSL.out
          injection he with he1 he2 he3
          obtain ⟨b, o, hbo, h7⟩ := h4 k hlt
          have h7 := h7.keep hbr
          rw [← he1] at hbo
          subst hbo
          obtain ⟨g, hg⟩ : ∃ g, g = GS[k] := ⟨_, rfl⟩
          have hmem : g ∈ GS := by rw [hg]; exact List.getElem_mem hlt
          have hbd := HBG.out g hmem
          have HSN : Hid (mxN T.size (GS.take (k + 1)) = if mxN T.size (GS.take k) < g.off + g.size then g.off + g.size else mxN T.size (GS.take k)) := by
            show _ = _
            rw [List.take_succ_eq_append_getElem hlt, mx_snoc, hg]
          rw [← hg] at h7
          have hlti : (k : Int) < (GS.length : Int) := by omega
          have io : (g.off : Int) < 4294967296 := by have := hbd.o; omega
          have is : (g.size : Int) < 4294967296 := by have := hbd.s; omega
          obtain ⟨r0, r1, r2, r3, r4, r5, r6⟩ := h7
          obtain ⟨W5, hW5, hb5, hz5, s0, s1, s2, s3, s4, s5, s6⟩ := box7 wr g
          have HB5 : Hid (Below y2.heap.size y2 W5) := below_tr hbr hb5
          obtain ⟨MK, hMK⟩ : ∃ m, m = mxN T.size (GS.take k) := ⟨_, rfl⟩
          rw [← hMK] at HSN ⊢
          clear hbr hb5 hz5 hbd hmem hg h4 he1 he2 he3 hMK
          by_cases hmx : MK < g.off + g.size
          · have hmi : (MK : Int) < (g.off : Int) + (g.size : Int) := by omega
            have HN : Hid (((mxN T.size (GS.take (k + 1)) : Nat) : Int) = (g.off : Int) + (g.size : Int)) := by show _ = _; rw [HSN.out, if_pos hmx]; omega
            clear hmx
            go_wp2
            go_roundw
            case rel => exact ⟨k + 1, by rw [HN.out]; first | rfl | rw [Int.max_eq_right (by omega)], by go_num, by omega, HB5.out⟩
            case measure => simp [intOf]; omega
          · have hmi : ¬ (MK : Int) < (g.off : Int) + (g.size : Int) := by omega
            have HN : Hid (((mxN T.size (GS.take (k + 1)) : Nat) : Int) = (MK : Int)) := by show _ = _; rw [HSN.out, if_neg hmx]
            clear hmx
            go_wp2
            go_roundw
            case rel => exact ⟨k + 1, by rw [HN.out]; first | rfl | rw [Int.max_eq_left (by omega)], by go_num, by omega, HB5.out⟩
            case measure => simp [intOf]; omega
        · have hke : k = GS.length := by omega
          subst hke
          rw [List.take_of_length_le (Nat.le_refl _)]
          obtain ⟨ED, hED⟩ : ∃ m, m = mxN T.size GS := ⟨_, rfl⟩
          rw [← hED]
          have HED : Hid (T.size ≤ ED ∧ (∀ g ∈ GS, g.off + g.size ≤ ED) ∧ ED < 8589934592) := by
            rw [hED]
            exact ⟨(mx_ge GS T.size).1, (mx_ge GS T.size).2, mx_lt GS HBG.out _ (by have := HTZ.out.1; have := HTZ.out.2.2.2; omega)⟩
          clear hED hbr hlt hk
          by_cases hbig : 20000 < ED
          · have ib : (20000 : Int) < (ED : Int) := by omega
            clear hbig
            go_wp2_with fail
            refine (KA.out wr).mono ?_
            rintro e y3 ⟨rfl, hb3⟩
            go_wp2
            go_ret
            exact ⟨rfl, below_tr (below_tr H2.out.1 HBR.out) hb3⟩
          have ib : ¬ (20000 : Int) < (ED : Int) := by omega
          obtain ⟨NZ, hNZ⟩ : ∃ n, n = ED - T.size := ⟨_, rfl⟩
          have hdiff : (ED : Int) - (T.size : Int) = (NZ : Int) := by have := HED.out.1; omega
          have iED : (ED : Int) ≤ 20000 := by omega
          have hNZ2 : NZ ≤ 20000 := by omega
          have mk := mkZ NZ hNZ2 wr
          have cv := convZ NZ wr
          obtain ⟨W6, hW6⟩ : ∃ W6, wr.alloc (.cells (W.zeroRow NZ).toArray 5) = W6 := ⟨_, rfl⟩
          rw [hW6] at mk cv
          have hb6 : Below wr.heap.size wr W6 := by rw [← hW6]; exact (Below.refl _ _).alloc (Nat.le_refl _) _
          have hlenz : (wrL a ++ zL NZ).length = ED := by
            rw [List.length_append, HTZ.out.2.2.1, ← HTZ.out.1]
            unfold zL
            rw [List.length_replicate]
            have := HED.out.1
            omega
          have hwp := write_parse hfa HBD.out HEA.out (zL NZ) (by
            rw [List.any_eq_false, hlenz]
            intro g hg
            have := HED.out.2.1 g (by rw [HGS.out]; exact hg)
            unfold farS
            simp only [decide_eq_true_eq]
            omega)
          have hF : parF (wrL a ++ zL NZ) = a := by unfold parF; rw [if_pos hwp.1, hwp.2]
          have K8 : Hid (∀ w', Calls Try.prog 8 #[.string (T ++ ⟨(zL NZ).toArray⟩)] w' fun e w'' => (∃ ao c, e = .returned (.tuple #[.agg #[.bool a.shared, .int .u32 (a.entry : Int), .slice ao GS.length c], .int .i64 0]) ∧ SlG w'' (.slice ao GS.length c) a.segs) ∧ Below w'.heap.size w' w'') := fun w' => by
            have h := par_at (wrL a ++ zL NZ) (by rw [hlenz]; omega) w'
            rw [hF, hwp.1, ← ba_app, ← HTZ.out.2.1, ← HGS.out] at h
            rw [← HGS.out]
            exact h
          obtain ⟨ZS, hZS⟩ : ∃ Z : ByteArray, Z = ⟨(zL NZ).toArray⟩ := ⟨_, rfl⟩
          have hZz : ZS.size = NZ := by rw [hZS]; show (zL NZ).toArray.size = NZ; unfold zL; simp
          rw [← hZS] at K8 cv
          have KS : Hid (∀ w' v v', SlG w' v a.segs → SlG w' v' a.segs → Calls Try.prog 10 #[.agg #[.bool a.shared, .int .u32 (a.entry : Int), v], .agg #[.bool a.shared, .int .u32 (a.entry : Int), v']] w' fun e w'' => e = .returned (.bool true) ∧ Below w'.heap.size w' w'') := fun w' v v' h h' => by
            have := rsame10 a a v v' w' h h' (by rw [← HGS.out]; have := HTZ.out.2.2.2; omega)
            rw [(sameE_iff _ _).2 rfl] at this
            exact this
          have H6 : Hid (Below w.heap.size w W6 ∧ Below y2.heap.size y2 W6) := ⟨below_tr (below_tr H2.out.1 HBR.out) hb6, below_tr HBR.out hb6⟩
          have iZ : (ZS.size : Int) ≤ 20000 := by omega
          have zsum : T.size + ZS.size ≤ 100000 := by omega
          clear hNZ hNZ2 hb6 hlenz hwp hF hZS hZz hbig
          go_wp2_with fail
          refine (K8.out W6).mono ?_
          rintro e y4 ⟨⟨co, cc, rfl, hs4⟩, hb4⟩
          obtain ⟨V7, W7, hV7, hW7, ⟨q0, q1, q2⟩, ⟨f0, f1, f2⟩, e7, hb7, hz7⟩ := new3 y4 (.bool a.shared) (.int .u32 (a.entry : Int)) (.slice co GS.length cc)
          have H7 : Hid (Below w.heap.size w W7 ∧ Below y2.heap.size y2 W7 ∧ B3 (.bool a.shared) (.int .u32 (a.entry : Int)) (.slice co GS.length cc) y4.heap.size W7 ∧ SlG W7 (.slice co GS.length cc) a.segs) := ⟨below_tr (below_tr H6.out.1 hb4) hb7, below_tr (below_tr H6.out.2 hb4) hb7, e7, hs4.keep hb7⟩
          have p0 := keep_cell H7.out.2.1 HQ.out.1
          have p1 := keep_cell H7.out.2.1 HQ.out.2.1
          have p2 := keep_cell H7.out.2.1 HQ.out.2.2
          obtain ⟨r0, r1, r2⟩ := H7.out.2.2.1.cells
          have HSA : Hid (SlG W7 (.slice ao GS.length ac) a.segs) := by rw [HGS.out]; exact H2.out.2.2.keep H7.out.2.1
          clear hs4 hb4 e7 hb7 hz7 mk cv hW6
          go_wp2_with fail
          refine (KS.out W7 _ _ H7.out.2.2.2 HSA.out).mono ?_
          rintro e y5 ⟨rfl, hb5⟩
          clear q0 q1 q2 f0 f1 f2 hV7 hW7 p0 p1 p2 r0 r1 r2
          go_wp2_with fail
          refine (KA.out y5).mono ?_
          rintro e y6 ⟨rfl, hb6⟩
          go_wp2
          go_ret
          exact ⟨rfl, below_tr (below_tr H7.out.1 hb5) hb6⟩
  · have hF : parF l = zeroE := by unfold parF; rw [if_neg h3]
    rw [hF] at K8
    have hne : ¬ (parE l : Int) = 0 := by omega
    have KS0 : Hid (∀ w' v, SlG w' v [] → Calls Try.prog 10 #[.agg #[.bool false, .int .u32 0, v], .agg #[.bool false, .int .u32 0, .slice none 0 0]] w' fun e w'' => e = .returned (.bool true) ∧ Below w'.heap.size w' w'') := fun w' v h => rsame10 zeroE zeroE v (.slice none 0 0) w' h (SlG.nil _) (by decide)
    have K8 : Calls Try.prog 8 #[.string S] W1 fun e w' => (∃ ao c, e = .returned (.tuple #[.agg #[.bool false, .int .u32 0, .slice ao 0 c], .int .i64 (parE l : Int)]) ∧ SlG w' (.slice ao 0 c) []) ∧ Below W1.heap.size W1 w' := K8
    generalize (parE l : Int) = EE at K8 hne
    clear hF hS hSl hSz h3
    go_enter Try.func5, Try.ntmps5
    go_wp2_with fail
    refine K8.mono ?_
    rintro e x1 ⟨⟨bo, bc, rfl, hs1⟩, hb1⟩
    clear q0 q1 q2 hW1
    obtain ⟨V2, W2, hV2, hW2, ⟨q0, q1, q2⟩, ⟨f0, f1, f2⟩, e2, hb2, hz2⟩ := new3 x1 (.bool false) (.int .u32 0) (.slice bo 0 bc)
    have H2 : Hid (Below w.heap.size w W2 ∧ B3 (.bool a.shared) (.int .u32 (a.entry : Int)) (.slice ao a.segs.length ac) w.heap.size W2 ∧ SlG W2 (.slice ao a.segs.length ac) a.segs ∧ SlG W2 (.slice bo 0 bc) []) := ⟨below_tr (below_tr HB1.out.1 hb1) hb2, (HB1.out.2.1.keep hb1).keep hb2, (HB1.out.2.2.keep hb1).keep hb2, hs1.keep hb2⟩
    obtain ⟨c0, c1, c2⟩ := e2.cells
    clear K8 hs1 hb1 hb2 e2 hz2 HB1
    go_wp2_with fail
    refine (KS0.out W2 _ H2.out.2.2.2).mono ?_
    rintro e x3 ⟨rfl, hb3⟩
    clear q0 q1 q2 f0 f1 f2 hV2 hW2 c0 c1 c2
    have HX : Hid (Below w.heap.size w x3 ∧ B3 (.bool a.shared) (.int .u32 (a.entry : Int)) (.slice ao a.segs.length ac) w.heap.size x3 ∧ SlG x3 (.slice ao a.segs.length ac) a.segs) := ⟨below_tr H2.out.1 hb3, H2.out.2.1.keep hb3, H2.out.2.2.1.keep hb3⟩
    clear hb3 H2 KS0
    obtain ⟨q0, q1, q2⟩ := HX.out.2.1.cells
    have K15 := write15 a (.slice ao a.segs.length ac) x3 HX.out.2.2 HBD.out HEA.out (by omega)
    unfold Ef.val at K15
    go_wp2_with fail
    refine K15.mono ?_
    rintro e y1 ⟨rfl, hb1⟩
    clear K15 q0 q1 q2
    have H1 : Hid (Below w.heap.size w y1 ∧ B3 (.bool a.shared) (.int .u32 (a.entry : Int)) (.slice ao a.segs.length ac) w.heap.size y1 ∧ SlG y1 (.slice ao a.segs.length ac) a.segs) := ⟨below_tr HX.out.1 hb1, HX.out.2.1.keep hb1, HX.out.2.2.keep hb1⟩
    clear hb1 HX
    obtain ⟨q0, q1, q2⟩ := H1.out.2.1.cells
    have K14 := rfit14 a (.slice ao a.segs.length ac) y1 H1.out.2.2 HBD.out (by omega)
    unfold Ef.val at K14
    cases hfa : fitE a with
    | false =>
      rw [hfa] at K14
      have hwe : wrL a = [] := by unfold wrL; rw [hfa, if_neg (by decide)]
      rw [hwe]
      go_wp2_with fail
      refine K14.mono ?_
      rintro e y2 ⟨rfl, hb2⟩
      have HB2 : Hid (Below w.heap.size w y2) := below_tr H1.out.1 hb2
      clear K14 q0 q1 q2 hb2
      go_wp2_with fail
      refine (KA.out y2).mono ?_
      rintro e y3 ⟨rfl, hb3⟩
      go_wp2
      go_ret
      exact ⟨rfl, below_tr HB2.out hb3⟩
    | true =>
      rw [hfa] at K14
      have hwl : (wrL a).length = 52 + 32 * a.segs.length := by unfold wrL; rw [if_pos hfa, List.length_append, headB_len, flat_len]
      obtain ⟨T, hT⟩ : ∃ T : ByteArray, T = ⟨(wrL a).toArray⟩ := ⟨_, rfl⟩
      have hTz : T.size = 52 + 32 * a.segs.length := by rw [hT]; show (wrL a).toArray.size = _; rw [List.size_toArray, hwl]
      rw [← hT]
      have HTQ : Hid (T.size = 52 + 32 * a.segs.length ∧ T = ⟨(wrL a).toArray⟩ ∧ (wrL a).length = 52 + 32 * a.segs.length) := ⟨hTz, hT, hwl⟩
      clear hT hTz hwl
      go_wp2_with fail
      refine K14.mono ?_
      rintro e y2 ⟨rfl, hb2⟩
      have H2 : Hid (Below w.heap.size w y2 ∧ B3 (.bool a.shared) (.int .u32 (a.entry : Int)) (.slice ao a.segs.length ac) w.heap.size y2 ∧ SlG y2 (.slice ao a.segs.length ac) a.segs) := ⟨below_tr H1.out.1 hb2, H1.out.2.1.keep hb2, H1.out.2.2.keep hb2⟩
      clear K14 q0 q1 q2 hb2 H1
      obtain ⟨q0, q1, q2⟩ := H2.out.2.1.cells
      have iT : (T.size : Int) ≤ 2000 := by have := HTQ.out.1; omega
      have eT : (T.size : Int) % 18446744073709551616 = (T.size : Int) := by omega
      have eTw : IntKind.u64.wrap (T.size : Int) = (T.size : Int) := by rw [IntKind.wrap_u64]; exact eT
      obtain ⟨GS, hGS⟩ : ∃ g, g = a.segs := ⟨_, rfl⟩
      have HGS : Hid (GS = a.segs) := hGS
      have HSL : Hid (∃ ao' cap', Value.slice ao GS.length ac = .slice ao' GS.length cap' ∧ ∀ i (h : i < GS.length), ∃ b o, ao' = some ⟨b, o, none⟩ ∧ At7 y2 b (o + i * 7) GS[i]) := by
        rw [hGS]
        obtain ⟨ao', cap', he, _, _, _, h4⟩ := H2.out.2.2
        exact ⟨ao', cap', he, h4⟩
      have HBG : Hid (∀ g ∈ GS, g.Bd) := by rw [hGS]; exact HBD.out
      have HT0 : Hid (T.size = mxN T.size (GS.take 0)) := by rw [List.take_zero]; exact rfl
      have HTZ : Hid (T.size = 52 + 32 * GS.length ∧ T = ⟨(wrL a).toArray⟩ ∧ (wrL a).length = 52 + 32 * GS.length ∧ GS.length ≤ 40) := by rw [hGS]; exact ⟨HTQ.out.1, HTQ.out.2.1, HTQ.out.2.2, by omega⟩
      rw [← hGS] at q2 ⊢
      have hgl : (GS.length : Int) ≤ 40 := by rw [hGS]; omega
      have HQ : Hid (y2.cell? ⟨w.heap.size, 0, none⟩ = some (.bool a.shared) ∧ y2.cell? ⟨w.heap.size, 1, none⟩ = some (.int .u32 (a.entry : Int)) ∧ y2.cell? ⟨w.heap.size, 2, none⟩ = some (.slice ao GS.length ac)) := ⟨q0, q1, q2⟩
      clear hGS h1 h2 HTQ
      go_wp2
      clear q0 q1 q2 eT eTw
      go_loopw [9, 81] (fun x y wr => ∃ k : Nat, x = .int .u64 ((mxN T.size (GS.take k) : Nat) : Int) ∧ y = .int .i64 (k : Int) ∧ k ≤ GS.length ∧ Below y2.heap.size y2 wr) (fun _ y _ => GS.length - (intOf y).toNat)
      case atStart => exact ⟨0, by first | (rw [← HT0.out]; done) | (rw [← HT0.out]; rfl), rfl, Nat.zero_le _, Below.refl _ _⟩
      case round =>
        obtain ⟨k, rfl, rfl, hk, hbr⟩ := hrel
        have HBR : Hid (Below y2.heap.size y2 wr) := hbr
        by_cases hlt : k < GS.length
        · obtain ⟨ao', cap', he, h4⟩ := HSL.out
          injection he with he1 he2 he3
          obtain ⟨b, o, hbo, h7⟩ := h4 k hlt
          have h7 := h7.keep hbr
          rw [← he1] at hbo
          subst hbo
          obtain ⟨g, hg⟩ : ∃ g, g = GS[k] := ⟨_, rfl⟩
          have hmem : g ∈ GS := by rw [hg]; exact List.getElem_mem hlt
          have hbd := HBG.out g hmem
          have HSN : Hid (mxN T.size (GS.take (k + 1)) = if mxN T.size (GS.take k) < g.off + g.size then g.off + g.size else mxN T.size (GS.take k)) := by
            show _ = _
            rw [List.take_succ_eq_append_getElem hlt, mx_snoc, hg]
          rw [← hg] at h7
          have hlti : (k : Int) < (GS.length : Int) := by omega
          have io : (g.off : Int) < 4294967296 := by have := hbd.o; omega
          have is : (g.size : Int) < 4294967296 := by have := hbd.s; omega
          obtain ⟨r0, r1, r2, r3, r4, r5, r6⟩ := h7
          obtain ⟨W5, hW5, hb5, hz5, s0, s1, s2, s3, s4, s5, s6⟩ := box7 wr g
          have HB5 : Hid (Below y2.heap.size y2 W5) := below_tr hbr hb5
          obtain ⟨MK, hMK⟩ : ∃ m, m = mxN T.size (GS.take k) := ⟨_, rfl⟩
          rw [← hMK] at HSN ⊢
          clear hbr hb5 hz5 hbd hmem hg h4 he1 he2 he3 hMK
          by_cases hmx : MK < g.off + g.size
          · have hmi : (MK : Int) < (g.off : Int) + (g.size : Int) := by omega
            have HN : Hid (((mxN T.size (GS.take (k + 1)) : Nat) : Int) = (g.off : Int) + (g.size : Int)) := by show _ = _; rw [HSN.out, if_pos hmx]; omega
            clear hmx
            go_wp2
            go_roundw
            case rel => exact ⟨k + 1, by rw [HN.out]; first | rfl | rw [Int.max_eq_right (by omega)], by go_num, by omega, HB5.out⟩
            case measure => simp [intOf]; omega
          · have hmi : ¬ (MK : Int) < (g.off : Int) + (g.size : Int) := by omega
            have HN : Hid (((mxN T.size (GS.take (k + 1)) : Nat) : Int) = (MK : Int)) := by show _ = _; rw [HSN.out, if_neg hmx]
            clear hmx
            go_wp2
            go_roundw
            case rel => exact ⟨k + 1, by rw [HN.out]; first | rfl | rw [Int.max_eq_left (by omega)], by go_num, by omega, HB5.out⟩
            case measure => simp [intOf]; omega
        · have hke : k = GS.length := by omega
          subst hke
          rw [List.take_of_length_le (Nat.le_refl _)]
          obtain ⟨ED, hED⟩ : ∃ m, m = mxN T.size GS := ⟨_, rfl⟩
          rw [← hED]
          have HED : Hid (T.size ≤ ED ∧ (∀ g ∈ GS, g.off + g.size ≤ ED) ∧ ED < 8589934592) := by
            rw [hED]
            exact ⟨(mx_ge GS T.size).1, (mx_ge GS T.size).2, mx_lt GS HBG.out _ (by have := HTZ.out.1; have := HTZ.out.2.2.2; omega)⟩
          clear hED hbr hlt hk
          by_cases hbig : 20000 < ED
          · have ib : (20000 : Int) < (ED : Int) := by omega
            clear hbig
            go_wp2_with fail
            refine (KA.out wr).mono ?_
            rintro e y3 ⟨rfl, hb3⟩
            go_wp2
            go_ret
            exact ⟨rfl, below_tr (below_tr H2.out.1 HBR.out) hb3⟩
          have ib : ¬ (20000 : Int) < (ED : Int) := by omega
          obtain ⟨NZ, hNZ⟩ : ∃ n, n = ED - T.size := ⟨_, rfl⟩
          have hdiff : (ED : Int) - (T.size : Int) = (NZ : Int) := by have := HED.out.1; omega
          have iED : (ED : Int) ≤ 20000 := by omega
          have hNZ2 : NZ ≤ 20000 := by omega
          have mk := mkZ NZ hNZ2 wr
          have cv := convZ NZ wr
          obtain ⟨W6, hW6⟩ : ∃ W6, wr.alloc (.cells (W.zeroRow NZ).toArray 5) = W6 := ⟨_, rfl⟩
          rw [hW6] at mk cv
          have hb6 : Below wr.heap.size wr W6 := by rw [← hW6]; exact (Below.refl _ _).alloc (Nat.le_refl _) _
          have hlenz : (wrL a ++ zL NZ).length = ED := by
            rw [List.length_append, HTZ.out.2.2.1, ← HTZ.out.1]
            unfold zL
            rw [List.length_replicate]
            have := HED.out.1
            omega
          have hwp := write_parse hfa HBD.out HEA.out (zL NZ) (by
            rw [List.any_eq_false, hlenz]
            intro g hg
            have := HED.out.2.1 g (by rw [HGS.out]; exact hg)
            unfold farS
            simp only [decide_eq_true_eq]
            omega)
          have hF : parF (wrL a ++ zL NZ) = a := by unfold parF; rw [if_pos hwp.1, hwp.2]
          have K8 : Hid (∀ w', Calls Try.prog 8 #[.string (T ++ ⟨(zL NZ).toArray⟩)] w' fun e w'' => (∃ ao c, e = .returned (.tuple #[.agg #[.bool a.shared, .int .u32 (a.entry : Int), .slice ao GS.length c], .int .i64 0]) ∧ SlG w'' (.slice ao GS.length c) a.segs) ∧ Below w'.heap.size w' w'') := fun w' => by
            have h := par_at (wrL a ++ zL NZ) (by rw [hlenz]; omega) w'
            rw [hF, hwp.1, ← ba_app, ← HTZ.out.2.1, ← HGS.out] at h
            rw [← HGS.out]
            exact h
          obtain ⟨ZS, hZS⟩ : ∃ Z : ByteArray, Z = ⟨(zL NZ).toArray⟩ := ⟨_, rfl⟩
          have hZz : ZS.size = NZ := by rw [hZS]; show (zL NZ).toArray.size = NZ; unfold zL; simp
          rw [← hZS] at K8 cv
          have KS : Hid (∀ w' v v', SlG w' v a.segs → SlG w' v' a.segs → Calls Try.prog 10 #[.agg #[.bool a.shared, .int .u32 (a.entry : Int), v], .agg #[.bool a.shared, .int .u32 (a.entry : Int), v']] w' fun e w'' => e = .returned (.bool true) ∧ Below w'.heap.size w' w'') := fun w' v v' h h' => by
            have := rsame10 a a v v' w' h h' (by rw [← HGS.out]; have := HTZ.out.2.2.2; omega)
            rw [(sameE_iff _ _).2 rfl] at this
            exact this
          have H6 : Hid (Below w.heap.size w W6 ∧ Below y2.heap.size y2 W6) := ⟨below_tr (below_tr H2.out.1 HBR.out) hb6, below_tr HBR.out hb6⟩
          have iZ : (ZS.size : Int) ≤ 20000 := by omega
          have zsum : T.size + ZS.size ≤ 100000 := by omega
          clear hNZ hNZ2 hb6 hlenz hwp hF hZS hZz hbig
          go_wp2_with fail
          refine (K8.out W6).mono ?_
          rintro e y4 ⟨⟨co, cc, rfl, hs4⟩, hb4⟩
          obtain ⟨V7, W7, hV7, hW7, ⟨q0, q1, q2⟩, ⟨f0, f1, f2⟩, e7, hb7, hz7⟩ := new3 y4 (.bool a.shared) (.int .u32 (a.entry : Int)) (.slice co GS.length cc)
          have H7 : Hid (Below w.heap.size w W7 ∧ Below y2.heap.size y2 W7 ∧ B3 (.bool a.shared) (.int .u32 (a.entry : Int)) (.slice co GS.length cc) y4.heap.size W7 ∧ SlG W7 (.slice co GS.length cc) a.segs) := ⟨below_tr (below_tr H6.out.1 hb4) hb7, below_tr (below_tr H6.out.2 hb4) hb7, e7, hs4.keep hb7⟩
          have p0 := keep_cell H7.out.2.1 HQ.out.1
          have p1 := keep_cell H7.out.2.1 HQ.out.2.1
          have p2 := keep_cell H7.out.2.1 HQ.out.2.2
          obtain ⟨r0, r1, r2⟩ := H7.out.2.2.1.cells
          have HSA : Hid (SlG W7 (.slice ao GS.length ac) a.segs) := by rw [HGS.out]; exact H2.out.2.2.keep H7.out.2.1
          clear hs4 hb4 e7 hb7 hz7 mk cv hW6
          go_wp2_with fail
          refine (KS.out W7 _ _ H7.out.2.2.2 HSA.out).mono ?_
          rintro e y5 ⟨rfl, hb5⟩
          clear q0 q1 q2 f0 f1 f2 hV7 hW7 p0 p1 p2 r0 r1 r2
          go_wp2_with fail
          refine (KA.out y5).mono ?_
          rintro e y6 ⟨rfl, hb6⟩
          go_wp2
          go_ret
          exact ⟨rfl, below_tr (below_tr H7.out.1 hb5) hb6⟩
end Go.Proofs.Ythhallhmolgpbaa
