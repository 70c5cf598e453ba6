import Derived.Test.YtimfipkbddpdmaaGreatDoorNe
import Derived.Test.YtimfipkbddpdmaaGreatDoorTie
import Derived.Test.YtimfipkbddpdmaaGreatDoorCards
set_option linter.unusedVariables false
set_option linter.unusedSimpArgs false
set_option maxRecDepth 100000
open Go Go.RowKit
namespace Go.Proofs.YtimfipkbddpdmaaGreatDoor
theorem sameG_self (ms cs ps : List (Nat × Int)) (bs : Nat) : Gm.sameG ms cs ps bs ms cs ps bs = true := decide_eq_true ⟨rfl, rfl, rfl, rfl⟩
open Classical in
theorem fitGB_is {ms cs ps : List (Nat × Int)} {bs : Nat} (h : Gm.fitGB ms cs ps bs = true) : Gm.FitG ms cs ps bs := of_decide_eq_true h
theorem fewB_in {ms cs ps : List (Nat × Int)} {bs : Nat} (h : Gm.fewB ms cs ps bs = true) : Gm.FitG ms cs ps bs := by
 unfold Gm.fewB at h
 rw [Bool.and_eq_true] at h
 exact fitGB_is h.2
set_option maxHeartbeats 8000000 in
theorem keeps_walk (c : Cp) (hc : c.Ok) (vm vc vp : Value) (ms cs ps : List (Nat × Int)) (bs : Nat) (w : World) (hT : Tab w) (hsl : Gm.SlG w vm vc vp ms cs ps) (hrc : ∀ y ∈ cs, y.1 < 18446744073709551616) (hbs : bs < 18446744073709551616) (hwd : Gm.Words cs) :
  Calls Tryz.prog 3 #[.agg c.cells.toArray, .agg #[vm, vc, .int .u64 bs, vp]] w fun e w' => e = .returned (.bool true) /\ Below w.heap.size w w' := by
 obtain ⟨am, nm, pm, ac, nc, pc, ap, np, pp, rfl, rfl, rfl⟩ := hsl.shape
 obtain ⟨W0, hW0⟩ : ∃ z, w.alloc (.cells c.cells.toArray 25) = z := ⟨_, rfl⟩
 have b0 : Below w.heap.size w W0 := by rw [<- hW0]; exact (Below.refl _ _).alloc (Nat.le_refl _) _
 have s0 : W0.heap.size = w.heap.size + 1 := by rw [<- hW0]; simp
 have k0 : Cb c w.heap.size W0 := by rw [<- hW0]; exact heap_alloc_new w _
 obtain ⟨W, hW, b1, s1, k1⟩ := allocw W0 [.slice am nm pm, .slice ac nc pc, .int .u64 bs, .slice ap np pp] 33
 have hb := below_tr b0 b1
 have HCB : Hid (∀ w', Below W.heap.size W w' -> Cb c w.heap.size w') := fun w' h => (k0.keep b1).keep h
 have HGB : Hid (∀ w', Below W.heap.size W w' -> Hk W0.heap.size [.slice am nm pm, .slice ac nc pc, .int .u64 bs, .slice ap np pp] 33 w') := fun w' h => k1.keep h
 have HSL : Hid (∀ w', Below W.heap.size W w' -> Gm.SlG w' (.slice am nm pm) (.slice ac nc pc) (.slice ap np pp) ms cs ps) := fun w' h => (hsl.keep hb).keep h
 have HB : Hid (Below w.heap.size w W) := hb
 have K6 := Gm.few6 (.slice am nm pm) (.slice ac nc pc) (.slice ap np pp) ms cs ps bs W (hsl.keep hb) hrc hbs
 have K7 : Hid (∀ w', Calls Tryz.prog 7 #[.agg c.cells.toArray] w' fun e w'' => e = .returned (.bool (c.r.getD 0 0 == 0)) /\ Below w'.heap.size w' w'') := fun w' => fit7 c w' hc
 have K8 : Hid (∀ w', Below w.heap.size w w' -> Calls Tryz.prog 8 #[] w' fun e w'' => e = .returned (.bool true) /\ Below w'.heap.size w' w'') := fun w' h => awake8 w' (hT.keep h)
 have HLC : Hid (c.r.length = 32) := hc.len
 have HFW : Hid (Gm.fewB ms cs ps bs = true -> Gm.FitG ms cs ps bs) := fun h => fewB_in h
 have K9 : Hid (Gm.FitG ms cs ps bs -> ∀ w', Below W.heap.size W w' -> Calls Tryz.prog 9 #[.agg c.cells.toArray, .agg #[.slice am nm pm, .slice ac nc pc, .int .u64 bs, .slice ap np pp]] w' fun e w'' => Below w'.heap.size w' w'' /\ ∃ v, e = .returned v /\ StT ⟨ms, ps, bs⟩ (stepR ⟨ms, ps, bs⟩ c cs).2.1 (stepR ⟨ms, ps, bs⟩ c cs).2.2 (stepR ⟨ms, ps, bs⟩ c cs).1.val v w'') := fun hf w' h => by
  refine (step9 ⟨ms, ps, bs⟩ c cs (.slice am nm pm) (.slice ac nc pc) (.slice ap np pp) w' hc ((hsl.keep hb).keep h) ⟨hf, hwd⟩ ((hT.keep hb).keep h)).mono ?_
  rintro e w2 ⟨hb', g', rfl, o⟩
  obtain ⟨⟨x1, x2, x3, e1⟩, ⟨x4, x5, x6, e2⟩, ⟨x7, x8, x9, e3⟩⟩ := own_shapes o
  rw [e1, e2, e3] at o |-
  exact ⟨hb', _, rfl, x1, x2, x3, x4, x5, x6, x7, x8, x9, rfl, o⟩
 have HLS : Hid ((stepR ⟨ms, ps, bs⟩ c cs).2.1.r.length = 32) := step_len hc
 have HSK : Hid (((stepR ⟨ms, ps, bs⟩ c cs).1.kind ≠ 0 /\ (stepR ⟨ms, ps, bs⟩ c cs).1.kind ≠ 1 -> (stepR ⟨ms, ps, bs⟩ c cs).2.1 = c /\ (stepR ⟨ms, ps, bs⟩ c cs).2.2 = cs) /\ (((stepR ⟨ms, ps, bs⟩ c cs).1.kind = 0 \/ (stepR ⟨ms, ps, bs⟩ c cs).1.kind = 1) -> (stepR ⟨ms, ps, bs⟩ c cs).2.1.r.getD 0 0 = c.r.getD 0 0 /\ (stepR ⟨ms, ps, bs⟩ c cs).2.1.pc = c.next)) := step_keeps ⟨ms, ps, bs⟩ c cs
 obtain ⟨c0, c1, c2, c3⟩ := k1.four
 generalize Gm.fewB ms cs ps bs = FW at K6 HFW
 generalize stepR ⟨ms, ps, bs⟩ c cs = SR at K9 HLS HSK
 obtain ⟨⟨kd, cd, at_, fk, fa⟩, cc, cs2⟩ := SR
 simp only [Ev.val] at K9 HLS HSK
 clear b0 s0 k0 b1 s1 k1 hb hsl hrc hbs hwd hT hc
 obtain ⟨CA, hCA⟩ : ∃ z, z = c.cells.toArray := ⟨_, rfl⟩
 rw [<- hCA] at K7 K9 hW0 |-
 have HCA : Hid (∀ w', Below W.heap.size W w' -> w'.heap[w.heap.size]? = some (.cells CA 25 (0, 0))) := fun w' h => by rw [hCA]; exact HCB.out w' h
 have HSZ : Hid ((Tryz.prog.info? 25).map (·.size) = some CA.size) := by rw [hCA]; exact size25 c HLC.out
 have HQ : Hid (CA = c.cells.toArray) := hCA
 clear hCA
 obtain ⟨F0, hF0⟩ : ∃ z, z = (c.r.getD 0 0 == 0) := ⟨_, rfl⟩
 rw [<- hF0] at K7
 have HF0 : Hid (F0 = (c.r.getD 0 0 == 0)) := hF0
 clear hF0
 go_enter Tryz.func3, Tryz.ntmps3
 go_upto_region 1 with fail
 refine wp_region_list ?_
 refine BigFrame.wpList_want (by kernel_rfl) ?_
 intro K hK
 unfold Oper.wp
 simp [go_sem, c0, c1, c2, c3]
 refine hK _ _ ?_
 clear hK K
 refine BigFrame.wpList_want (by kernel_rfl) ?_
 intro K hK
 unfold Oper.wp
 simp [go_sem]
 refine (K6).mono ?_
 rintro e w1 ⟨rfl, hb1⟩
 refine hK _ _ ?_
 clear hK K
 have HB1 : Hid (Below W.heap.size W w1) := hb1
 clear c0 c1 c2 c3 K6 hb1
 cases FW with
 | false =>
  iterate 2 (refine BigFrame.wpList_want (by kernel_rfl) fun K hK => ?_; unfold Oper.wp; simp [go_sem]; refine hK _ _ ?_; clear hK K)
  iterate 3 (refine wpList_skip (by kernel_rfl) ?_; simp only [Act.put])
  refine BigFrame.wpList_want (by kernel_rfl) fun K hK => ?_; unfold Oper.wp; simp [go_sem]; refine hK _ _ ?_; clear hK K
  refine wpList_nil ?_
  go_wp2_with fail
  refine (K8.out w1 (below_tr HB.out HB1.out)).mono ?_
  rintro e w2 ⟨rfl, hb2⟩
  have HE : Hid (Below w.heap.size w w2) := below_tr (below_tr HB.out HB1.out) hb2
  clear hb2
  go_wp2
  go_ret
  exact ⟨rfl, HE.out⟩
 | true =>
  iterate 2 (refine BigFrame.wpList_want (by kernel_rfl) fun K hK => ?_; unfold Oper.wp; simp [go_sem]; refine hK _ _ ?_; clear hK K)
  refine BigFrame.wpList_want (by kernel_rfl) ?_
  intro K hK
  refine wp_load_row 25 (.tmp 2) rfl w.heap.size (by simp [Act.eval, Act.put]) 25 CA (0, 0) _ (HCA.out _ HB1.out) (by rfl) (by rfl) HSZ.out (hK _ _ ?_)
  clear hK K
  refine BigFrame.wpList_want (by kernel_rfl) ?_
  intro K hK
  unfold Oper.wp
  simp [go_sem]
  refine (K7.out w1).mono ?_
  rintro e w2 ⟨rfl, hb2⟩
  refine hK _ _ ?_
  clear hK K
  have HB2 : Hid (Below W.heap.size W w2) := below_tr HB1.out hb2
  clear hb2
  cases F0 with
  | false =>
   iterate 2 (refine BigFrame.wpList_want (by kernel_rfl) fun K hK => ?_; unfold Oper.wp; simp [go_sem]; refine hK _ _ ?_; clear hK K)
   refine wpList_nil ?_
   go_wp2_with fail
   refine (K8.out w2 (below_tr HB.out HB2.out)).mono ?_
   rintro e w3 ⟨rfl, hb3⟩
   have HE : Hid (Below w.heap.size w w3) := below_tr (below_tr HB.out HB2.out) hb3
   clear hb3
   go_wp2
   go_ret
   exact ⟨rfl, HE.out⟩
  | true =>
   iterate 2 (refine BigFrame.wpList_want (by kernel_rfl) fun K hK => ?_; unfold Oper.wp; simp [go_sem]; refine hK _ _ ?_; clear hK K)
   refine wpList_nil ?_
   have HFIT := HFW.out rfl
   go_upto_region 3 with fail
   refine wp_region_list ?_
   obtain ⟨c0, c1, c2, c3⟩ := (HGB.out w2 HB2.out).four
   refine BigFrame.wpList_want (by kernel_rfl) ?_
   intro K hK
   refine wp_load_row 25 (.tmp 2) rfl w.heap.size (by simp [Act.eval, Act.put]) 25 CA (0, 0) _ (HCA.out _ HB2.out) (by rfl) (by rfl) HSZ.out (hK _ _ ?_)
   clear hK K
   refine BigFrame.wpList_want (by kernel_rfl) ?_
   intro K hK
   unfold Oper.wp
   simp [go_sem, c0, c1, c2, c3]
   refine hK _ _ ?_
   clear hK K
   refine BigFrame.wpList_want (by kernel_rfl) ?_
   intro K hK
   unfold Oper.wp
   simp [go_sem]
   refine (K9.out HFIT w2 HB2.out).mono ?_
   rintro e w3 ⟨hb3, v, rfl, x1, x2, x3, x4, x5, x6, x7, x8, x9, rfl, o⟩
   refine hK _ _ ?_
   clear hK K
   iterate 4 (refine BigFrame.wpList_want (by kernel_rfl) fun K hK => ?_; unfold Oper.wp; simp [go_sem]; refine hK _ _ ?_; clear hK K)
   obtain ⟨V1, hV1, bv1, sv1, m3⟩ := allocC w3
   obtain ⟨V2, hV2, bv2, sv2, m4⟩ := allocw V1 z4 33
   obtain ⟨V3, hV3, bv3, sv3, m5⟩ := allocw V2 [.int .i64 0, .int .u32 0, .int .u32 0, .int .i64 0, .int .u64 0] 40
   have bV := below_tr bv1 (below_tr bv2 bv3)
   have m3 := (m3.keep bv2).keep bv3
   have FF := run_fin (M := ⟨ms, ps, bs⟩) (cs := cs2) (w0 := w3) (w := V3) (c := cc) (ev := ⟨kd, cd, at_, fk, fa⟩) m3 (m4.keep bv3) m5 (o.keep bV) bV (Nat.le_refl _) (by omega) (by omega)
   have HV : Hid _ := And.intro FF.2.2.1 (below_tr (below_tr HB2.out hb3) FF.2.2.2)
   clear bv1 sv1 bv2 sv2 bv3 sv3 m4 m5 bV o hb3 c0 c1 c2 c3
   refine BigFrame.wpList_want (by kernel_rfl) fun K hK => ?_; unfold Oper.wp; simp [go_sem]; refine hK _ _ ?_; clear hK K
   rw [hV1]
   refine BigFrame.wpList_want (by kernel_rfl) fun K hK => ?_; unfold Oper.wp; simp [go_sem]; refine hK _ _ ?_; clear hK K
   rw [hV2]
   refine BigFrame.wpList_want (by kernel_rfl) fun K hK => ?_; unfold Oper.wp; simp [go_sem]; refine hK _ _ ?_; clear hK K
   rw [hV3]
   refine BigFrame.wpList_want (by kernel_rfl) ?_
   intro K hK
   refine wp_store_row 25 (.tmp 5) (.tmp 22) rfl w3.heap.size cc.cells.toArray (by simp [Act.eval, Act.put]) (by simp [Act.eval, Act.put]) 25 _ m3 (size25 cc HLS.out) (by rw [List.size_toArray, List.size_toArray, cells_len _ HLS.out, cells_len _ c00_len]) (one_c cc) ?_
   refine hK _ _ ?_
   clear hK K
   refine BigFrame.wpList_want (by kernel_rfl) ?_
   intro K hK
   refine wp_store_row 33 (.tmp 6) (.tmp 23) rfl V1.heap.size #[.slice x1 x2 x3, .slice x4 x5 x6, .int .u64 bs, .slice x7 x8 x9] (by simp [Act.eval, Act.put]) (by simp [Act.eval, Act.put]) 33 _ FF.1 info33 rfl (by simp [Value.oneCell']) ?_
   refine hK _ _ ?_
   clear hK K
   refine BigFrame.wpList_want (by kernel_rfl) ?_
   intro K hK
   refine wp_store_row 40 (.tmp 7) (.tmp 24) rfl V2.heap.size (evA ⟨kd, cd, at_, fk, fa⟩) (by simp [Act.eval, Act.put]) (by simp [Act.eval, Act.put, evA]) 40 _ FF.2.1 info40 rfl (by simp [evA, Value.oneCell']) ?_
   refine hK _ _ ?_
   clear hK K
   obtain ⟨V, hV⟩ : ∃ z, (((V3.setRow w3.heap.size cc.cells.toArray).setRow V1.heap.size #[.slice x1 x2 x3, .slice x4 x5 x6, .int .u64 bs, .slice x7 x8 x9]).setRow V2.heap.size (evA ⟨kd, cd, at_, fk, fa⟩)) = z := ⟨_, rfl⟩
   rw [hV]
   have HV : Hid (RunS ⟨ms, ps, bs⟩ cc cs2 ⟨kd, cd, at_, fk, fa⟩ w3.heap.size V1.heap.size V2.heap.size V /\ Below W.heap.size W V) := by rw [<- hV]; exact HV.out
   clear hV FF hV1 hV2 hV3 m3
   refine wpList_nil ?_
   obtain ⟨⟨y1, y2, y3, y4, y5, y6, y7, y8, y9, r3, r4, r5, oy⟩, bV⟩ := HV.out
   obtain ⟨e0, _⟩ := r5.cells
   clear r3 r4 r5 oy bV
   by_cases hk : kd ≠ 0 /\ kd ≠ 1
   ·have hk0 : (kd != 0) = true := by simp [hk.1]
    have hk1 : (kd != 1) = true := by simp [hk.2]
    obtain ⟨q1, q2⟩ := HSK.out.1 hk
    subst q1 q2
    have HVR : Hid (∀ w', Below V.heap.size V w' -> ∃ y1 y2 y3 y4 y5 y6 y7 y8 y9, w'.heap[w3.heap.size]? = some (.cells CA 25 (0, 0)) /\ Hk V1.heap.size [.slice y1 y2 y3, .slice y4 y5 y6, .int .u64 bs, .slice y7 y8 y9] 33 w' /\ Gm.SlG w' (.slice y1 y2 y3) (.slice y4 y5 y6) (.slice y7 y8 y9) ms cs2 ps) := fun w' h => by
     obtain ⟨y1, y2, y3, y4, y5, y6, y7, y8, y9, r3, r4, r5, oy⟩ := HV.out.1.keep h
     exact ⟨y1, y2, y3, y4, y5, y6, y7, y8, y9, by rw [HQ.out]; exact r3, r4, own_slg oy⟩
    have HBV : Hid (Below W.heap.size W V) := HV.out.2
    have HEQ : ∀ wx, (Op.equalIn 10000 25 (.agg CA) (.agg CA)).run Tryz.prog wx = .ok true wx := fun wx => by rw [HQ.out]; exact eq25i _ HLC.out wx
    obtain ⟨y1, y2, y3, y4, y5, y6, y7, y8, y9, r3, r4, r5⟩ := HVR.out V (Below.refl _ _)
    obtain ⟨d0, d1, d2, d3⟩ := r4.four
    obtain ⟨c0, c1, c2, c3⟩ := (HGB.out V HBV.out).four
    have K10 := Gm.rsame13 (.slice am nm pm) (.slice ac nc pc) (.slice ap np pp) (.slice y1 y2 y3) (.slice y4 y5 y6) (.slice y7 y8 y9) ms cs2 ps ms cs2 ps bs bs V (HSL.out V HBV.out) r5
    rw [sameG_self] at K10
    clear r4 r5 HV HSK
    go_upto_region 5 with fail
    refine wp_region_list ?_
    refine BigFrame.wpList_want (by kernel_rfl) ?_
    intro K hK
    refine wp_load_row 25 (.tmp 5) rfl w3.heap.size (by simp [Act.eval, Act.put]) 25 CA (0, 0) _ (r3) (by rfl) (by rfl) HSZ.out (hK _ _ ?_)
    clear hK K
    refine BigFrame.wpList_want (by kernel_rfl) ?_
    intro K hK
    refine wp_load_row 25 (.tmp 2) rfl w.heap.size (by simp [Act.eval, Act.put]) 25 CA (0, 0) _ (HCA.out _ HBV.out) (by rfl) (by rfl) HSZ.out (hK _ _ ?_)
    clear hK K
    refine BigFrame.wpList_want (by kernel_rfl) ?_
    intro K hK
    unfold Oper.wp
    simp [go_sem, HEQ]
    refine hK _ _ ?_
    clear hK K
    refine BigFrame.wpList_want (by kernel_rfl) fun K hK => ?_; unfold Oper.wp; simp [go_sem]; refine hK _ _ ?_; clear hK K
    refine BigFrame.wpList_want (by kernel_rfl) ?_
    intro K hK
    unfold Oper.wp
    simp [go_sem, c0, c1, c2, c3]
    refine hK _ _ ?_
    clear hK K
    refine BigFrame.wpList_want (by kernel_rfl) ?_
    intro K hK
    unfold Oper.wp
    simp [go_sem, d0, d1, d2, d3]
    refine hK _ _ ?_
    clear hK K
    refine BigFrame.wpList_want (by kernel_rfl) ?_
    intro K hK
    unfold Oper.wp
    simp [go_sem]
    refine (K10).mono ?_
    rintro e w4 ⟨rfl, hb4⟩
    refine hK _ _ ?_
    clear hK K
    have HB4 : Hid (Below w.heap.size w w4) := below_tr (below_tr HB.out HBV.out) hb4
    clear hb4 K10
    iterate 2 (refine BigFrame.wpList_want (by kernel_rfl) fun K hK => ?_; unfold Oper.wp; simp [go_sem]; refine hK _ _ ?_; clear hK K)
    refine BigFrame.wpList_want (by kernel_rfl) ?_
    intro K hK
    unfold Oper.wp
    simp [go_sem]
    refine (K8.out w4 HB4.out).mono ?_
    rintro e w5 ⟨rfl, hb5⟩
    refine hK _ _ ?_
    clear hK K
    have HE : Hid (Below w.heap.size w w5) := below_tr HB4.out hb5
    clear hb5
    iterate 2 (refine BigFrame.wpList_want (by kernel_rfl) fun K hK => ?_; unfold Oper.wp; simp [go_sem]; refine hK _ _ ?_; clear hK K)
    refine wpList_nil ?_
    go_wp2
    go_ret
    exact ⟨rfl, HE.out⟩
   ·have hk' : kd = 0 \/ kd = 1 := by
     by_cases h0 : kd = 0
     ·exact .inl h0
     ·by_cases h1 : kd = 1
      ·exact .inr h1
      ·exact absurd ⟨h0, h1⟩ hk
    obtain ⟨q1, q2⟩ := HSK.out.2 hk'
    have HBV : Hid (Below W.heap.size W V) := HV.out.2
    obtain ⟨y1, y2, y3, y4, y5, y6, y7, y8, y9, r3, r4, r5, oy⟩ := HV.out.1
    obtain ⟨a7, cap7, e7, l7, l7', l7'', hX⟩ := (own_slg oy).2.2
    obtain ⟨a8, cap8, e8, l8, l8', l8'', hY⟩ := (HSL.out V HBV.out).2.2
    simp only [Value.slice.injEq] at e7 e8
    obtain ⟨rfl, rfl, rfl⟩ := e7
    obtain ⟨rfl, rfl, rfl⟩ := e8
    have HX : Hid (∀ i (h : i < ps.length), ∃ b o, y7 = some ⟨b, o, none⟩ /\ V.cell? ⟨b, o + i * 2, none⟩ = some (.int .u32 (ps[i].1 : Int)) /\ V.cell? ⟨b, o + i * 2 + 1, none⟩ = some (.int .i64 ps[i].2)) := hX
    have HY : Hid (∀ i (h : i < ps.length), ∃ b o, ap = some ⟨b, o, none⟩ /\ V.cell? ⟨b, o + i * 2, none⟩ = some (.int .u32 (ps[i].1 : Int)) /\ V.cell? ⟨b, o + i * 2 + 1, none⟩ = some (.int .i64 ps[i].2)) := hY
    have z0 : V.cell? ⟨w3.heap.size, 0, none⟩ = some (.int .u32 0) := by
     refine cb_at r3 ?_
     have h0 := HF0.out
     have h1 : c.r.getD 0 0 = 0 := by simpa using h0.symm
     unfold Cp.cells Cp.regs
     rw [List.getElem?_append_left (by simp [HLS.out]), List.getElem?_map]
     have h2 : cc.r[0]? = some 0 := by
      rw [List.getElem?_eq_getElem (by rw [HLS.out]; decide)]
      rw [h1, List.getD_eq_getElem?_getD, List.getElem?_eq_getElem (by rw [HLS.out]; decide)] at q1
      exact congrArg some q1
     rw [h2]; rfl
    obtain ⟨nx, hnx⟩ : ∃ z, z = c.next := ⟨_, rfl⟩
    have z34 : V.cell? ⟨w3.heap.size, 34, none⟩ = some (.int .u32 nx) := by
     refine cb_at r3 ((cells_tail cc HLS.out 2).trans ?_)
     unfold Cp.tail
     rw [hnx, <- q2]; rfl
    have z35 : V.cell? ⟨w.heap.size, 35, none⟩ = some (.int .u32 nx) := by
     refine cb_at (HCB.out V HBV.out) ((cells_tail c HLC.out 3).trans ?_)
     unfold Cp.tail
     rw [hnx]; rfl
    have d2 : V.cell? ⟨V1.heap.size, 2, none⟩ = some (.int .u64 bs) := r4.at_ 2 rfl
    have d3 : V.cell? ⟨V1.heap.size, 3, none⟩ = some (.slice y7 ps.length y9) := r4.at_ 3 rfl
    obtain ⟨c0, c1, c2, c3⟩ := (HGB.out V HBV.out).four
    have HV1 : Hid (∀ w', Below V.heap.size V w' -> w'.cell? ⟨V1.heap.size, 3, none⟩ = some (.slice y7 ps.length y9) /\ w'.cell? ⟨W0.heap.size, 3, none⟩ = some (.slice ap ps.length pp)) := fun w' h => ⟨(r4.keep h).at_ 3 rfl, ((HGB.out V HBV.out).keep h).at_ 3 rfl⟩
    clear r3 r4 r5 oy hX hY HV HSK q1 q2 hnx HSL
    rcases hk' with rfl | rfl
    all_goals
     go_wp2_with fail
    all_goals
     clear z0 z34 z35 c0 c1 c2 c3 d2 d3
     go_loopw [74] (fun i wr => ∃ m : Nat, m <= ps.length /\ i = .int .i64 m /\ Below V.heap.size V wr) (fun i _ => ps.length - (intOf i).toNat)
     case atStart => exact ⟨0, Nat.zero_le _, rfl, Below.refl _ _⟩
     case round =>
      obtain ⟨m, hm, rfl, hbr⟩ := hrel
      obtain ⟨d3, c3⟩ := HV1.out wr hbr
      by_cases hml : m < ps.length
      ·have y6 : (m : Int) < (ps.length : Int) := by omega
       obtain ⟨b, o, rfl, p0, p1⟩ := HX.out m hml
       obtain ⟨b', o', rfl, p2, p3⟩ := HY.out m hml
       have e0 := keep_cell hbr p0
       have e1 := keep_cell hbr p1
       have e2 := keep_cell hbr p2
       have e3 := keep_cell hbr p3
       obtain ⟨pp0, hp0⟩ : ∃ p, p = ps[m].1 := ⟨_, rfl⟩
       obtain ⟨pp1, hp1⟩ : ∃ p, p = ps[m].2 := ⟨_, rfl⟩
       rw [<- hp0] at e0 e2
       rw [<- hp1] at e1 e3
       clear p0 p1 p2 p3 hp0 hp1
       go_wp2
       go_region_held3 (fun w' => Below V.heap.size V w' /\ w'.cell? ⟨V1.heap.size, 3, none⟩ = some (.slice (some ⟨b, o, none⟩) ps.length y9) /\ w'.cell? ⟨W0.heap.size, 3, none⟩ = some (.slice (some ⟨b', o', none⟩) ps.length pp) /\ w'.cell? ⟨b, o + m * 2, none⟩ = some (.int .u32 pp0) /\ w'.cell? ⟨b, o + m * 2 + 1, none⟩ = some (.int .i64 pp1) /\ w'.cell? ⟨b', o' + m * 2, none⟩ = some (.int .u32 pp0) /\ w'.cell? ⟨b', o' + m * 2 + 1, none⟩ = some (.int .i64 pp1)) (refine ⟨?_, ?_, ?_, ?_, ?_, ?_, ?_⟩ <;> first | (with_reducible assumption) | (with_reducible refine Below.drew ?_; with_reducible assumption) | (refine cell_drew ?_; with_reducible assumption)) (fail)
       all_goals go_wp2
       go_roundw
       case rel => exact ⟨m + 1, by omega, by go_num, (hbr.trans ((Below.refl wr.heap.size wr).drew.mono hbr.size))⟩
       case measure => simp [intOf]; omega
      ·have y6 : ¬ (m : Int) < (ps.length : Int) := by omega
       go_wp2_with fail
       refine (K8.out wr (below_tr HB.out (below_tr HBV.out hbr))).mono ?_
       rintro e w5 ⟨rfl, hb5⟩
       have HE : Hid (Below w.heap.size w w5) := below_tr (below_tr HB.out (below_tr HBV.out hbr)) hb5
       clear hb5
       go_wp2
       go_ret
       exact ⟨rfl, HE.out⟩
end Go.Proofs.YtimfipkbddpdmaaGreatDoor
namespace Go.Proofs.YtimfipkbddpdmaaGreatDoor.stepKeeps
open Go.ChangeShapes Go.WideShapes Go.ChangeAt Go.RowKit
set_option maxRecDepth 100000 in
theorem lifted (os : Os) (started : os.Started) (H : Type) (enc : TypeId × Value -> H) :
  ReturnsInHanded {} Tryz.checked os 3 .any (fun w args => (Rows.stepKeepsSpec.pre enc Tryz.prog Tryz.f3 [] false w args /\ laidMetH Tryz.prog laid1 w) /\ sizedMet enc Tryz.prog Tryz.f3 (OpenSpec.ofChange Rows.stepKeepsSpec) false w args)
   (Rows.stepKeepsSpec.post enc Tryz.prog Tryz.f3 false true false false) := by
 refine returnsInHanded_of_change_and (C := Tryz.checked) (X := fun w _ => laidMetH Tryz.prog laid1 w) (fun _ _ _ hh h => h.of_heap hh) own started (by kernel_rfl) Tryz.func3
  (ChangeSpec.witness_shaped (enc := enc) (C := Tryz.checked) (os := os) (X := fun w _ => laidMetH Tryz.prog laid1 w) false (World.doorLaid Tryz.prog 400 os) #[.agg #[.int .u32 0, .int .u32 0, .int .u32 0, .int .u32 0, .int .u32 0, .int .u32 0, .int .u32 0, .int .u32 0, .int .u32 0, .int .u32 0, .int .u32 0, .int .u32 0, .int .u32 0, .int .u32 0, .int .u32 0, .int .u32 0, .int .u32 0, .int .u32 0, .int .u32 0, .int .u32 0, .int .u32 0, .int .u32 0, .int .u32 0, .int .u32 0, .int .u32 0, .int .u32 0, .int .u32 0, .int .u32 0, .int .u32 0, .int .u32 0, .int .u32 0, .int .u32 0, .int .u32 0, .int .u32 0, .int .u32 0, .int .u32 0, .bool false, .int .u32 0, .bool false], .agg #[.slice none 0 0, .slice none 0 0, .int .u64 0, .slice none 0 0]] 8 rfl (World.shaped_of_RefB (by kernel_rfl) (by kernel_rfl)) (by kernel_rfl) (by kernel_rfl) (by kernel_rfl) (door_met os _)) ?_
 intro W base args ds gs before hval0 hW _ _ hL _
 have hval : ∀ (j : Nat) t v, Tryz.f3.params[j]? = some t -> args[j]? = some v -> Value.okWide Tryz.prog W .any base t v := hval0
 have hW' := hW
 obtain ⟨p, q, hA0, hV, rfl, hfz, hnd⟩ := hW
 have hA : DataW.TrodAll enc Tryz.prog W 0 (fun _ => true) true Tryz.f3.params.toList args.toList ds p := hA0
 rw [Tryz.params3] at hA hval
 obtain ⟨v0, vs0, d0, ds0, p0, q0, hargs, rfl, rfl, h0, r0⟩ := trodAll_cons hA
 obtain ⟨v1, vs1, d1, ds1, p1, q1, rfl, rfl, rfl, h1, r1⟩ := trodAll_cons r0
 obtain ⟨rfl, rfl, rfl⟩ := trodAll_nil r1
 obtain rfl : args = #[v0, v1] := by cases args; simp_all
 obtain ⟨rfl, rfl⟩ := trodVars_none hV
 obtain ⟨c0, rfl, ok0⟩ := openCpu (hval 0 25 v0 rfl rfl)
 obtain ⟨m1, k1, g1, ms1, cs1, ps1, bs1, rfl, sg1, rc1, ww1, bb1, pn1⟩ := Gm.openGuest (hval 1 33 v1 rfl rfl) h1
 have lt0 : ∀ x ∈ p0, x.block < W.heap.size := by obtain ⟨m, hm⟩ := h0; exact DataW.trod_lt m _ _ _ hm
 have lt1 : ∀ x ∈ p1, x.block < W.heap.size := by obtain ⟨m, hm⟩ := h1; exact DataW.trod_lt m _ _ _ hm
 clear hA0 hval0
 refine (keeps_walk c0 ok0 m1 k1 g1 ms1 cs1 ps1 bs1 W (tab_of hL) sg1 rc1 bb1 ww1).mono fun e W' ⟨he, bel⟩ => ?_
 subst he
 exact ⟨_, rfl, _, _, _, [], _, [], hW', trodAll_mk1 (shut_bool Tryz.underlying4 _), (trodAll_cons_mk (Below.trod laidOut (by kernel_rfl) (of_decide_eq_true (by kernel_rfl)) h0 bel lt0) (trodAll_cons_mk (Below.trod laidOut (by kernel_rfl) (of_decide_eq_true (by kernel_rfl)) h1 bel lt1) trodAll_mk0)), rfl, bel.frame _, fun h => by cases h⟩
theorem over : Rows.stepKeepsRow.holds Tryz.pinned (OpenSpec.ofChange Rows.stepKeepsSpec) :=
 OpenClaim.holds_of_wide 3 Tryz.f3 rfl rfl rfl rfl rfl rfl rfl ⟨rfl, rfl, rfl, rfl, rfl⟩ rfl rfl rfl rfl rfl (by kernel_rfl) Tryz.func3 (by kernel_rfl)
  (of_decide_eq_true (by kernel_rfl)) (by unfold Func.isWrapper; first | (rw [if_pos (by decide +kernel)]; kernel_rfl) | (rw [if_neg (by decide +kernel)]; exact ⟨rfl, rfl⟩))
  (fun os started H enc _ => lifted os started H enc)
theorem noStand : ∀ t ∈ Tryz.f3.params.toList, Tryz.prog.wantsStandIn t = false := by
 rw [Tryz.params3]
 intro t ht
 simp only [List.mem_cons, List.not_mem_nil, or_false] at ht
 rcases ht with rfl | rfl
 ·kernel_rfl
 ·kernel_rfl
end Go.Proofs.YtimfipkbddpdmaaGreatDoor.stepKeeps
namespace Go.Proofs.YtimfipkbddpdmaaGreatDoor
open Go
theorem stepKeeps_holds : Rows.StepKeepsCardSaid :=
 Claim7.holds_tied_plain_at .later [] [.data] true (true, "0341956c7deed57ee4fae116be01ae0cd4b112d1d3336117b95c5efca1932510") true
  stepKeeps.over (fun _ h => by cases h) (by kernel_rfl) (fun _ h => by cases h) stepKeeps_row_tie rfl ⟨rfl, rfl⟩ (by kernel_rfl) rfl
  (fun f fn hf hfn => by
   obtain rfl : f = 3 := Option.some.inj ((show Tryz.prog.funcNamed "ferry/ferrylaw11.StepKeeps" = some 3 by kernel_rfl).symm.trans hf) |>.symm
   obtain rfl : fn = Tryz.f3 := (Option.some.inj (Tryz.func3.symm.trans hfn)).symm
   exact ⟨by kernel_rfl, fun j t ht => stepKeeps.noStand t (by
    have := List.mem_of_getElem? (l := Tryz.f3.params.toList) (i := j) (a := t) (by simpa using ht)
    exact this)⟩)
  (by kernel_rfl)
end Go.Proofs.YtimfipkbddpdmaaGreatDoor
