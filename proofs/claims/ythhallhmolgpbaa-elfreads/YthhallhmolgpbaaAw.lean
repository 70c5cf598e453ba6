/- What is proved here: the chapter's examples; cut short a header is none. -/
import Derived.Test.YthhallhmolgpbaaPs
import Derived.Test.YthhallhmolgpbaaWr
import Derived.Test.YthhallhmolgpbaaEq
namespace Go.Proofs.Ythhallhmolgpbaa
open Go.RowKit
set_option linter.unusedVariables false
set_option linter.unusedSimpArgs false
set_option maxRecDepth 100000
/-- A new variable of three cells, stored. -/
theorem new3 (w : World) (a b c : Value) : ∃ V W, w.alloc (.cells #[.bool false, .int .u32 0, .slice none 0 0] 26) = V ∧ ((V.setCell ⟨w.heap.size, 0, none⟩ a).setCell ⟨w.heap.size, 1, none⟩ b).setCell ⟨w.heap.size, 2, none⟩ c = W ∧
    (V.cell? ⟨w.heap.size, 0, none⟩ = some (.bool false) ∧ V.cell? ⟨w.heap.size, 1, none⟩ = some (.int .u32 0) ∧ V.cell? ⟨w.heap.size, 2, none⟩ = some (.slice none 0 0)) ∧
    (V.frozen? ⟨w.heap.size, 0, none⟩ = false ∧ V.frozen? ⟨w.heap.size, 1, none⟩ = false ∧ V.frozen? ⟨w.heap.size, 2, none⟩ = false) ∧
    B3 a b c w.heap.size W ∧ Below w.heap.size w W ∧ w.heap.size < W.heap.size := by
  have ev : Z3 w.heap.size (w.alloc (.cells #[.bool false, .int .u32 0, .slice none 0 0] 26)) := World.alloc_heap_new w _
  have i := st3_in ev a b c
  have hb : Below w.heap.size w (w.alloc (.cells #[.bool false, .int .u32 0, .slice none 0 0] 26)) := (Below.refl _ _).alloc (Nat.le_refl _) _
  refine ⟨_, _, rfl, rfl, ev.cells, ⟨ev.frozen 0, ev.frozen 1, ev.frozen 2⟩, i, ((hb.setCell (p := ⟨w.heap.size, 0, none⟩) (Nat.le_refl _) _).setCell (p := ⟨w.heap.size, 1, none⟩) (Nat.le_refl _) _).setCell (p := ⟨w.heap.size, 2, none⟩) (Nat.le_refl _) _, i.lt⟩
def exE : Ef := ⟨false, 4096, []⟩
theorem ex_fit : fitE exE = true := by decide
theorem ex_len : (wrL exE).length = 52 := by unfold wrL; rw [if_pos ex_fit, List.length_append, headB_len]; rfl
theorem ex_par : parE (wrL exE) = 0 ∧ parF (wrL exE) = exE := by
  have h := write_parse ex_fit (by intro g hg; simp [exE] at hg) (by decide) [] (by simp [exE])
  rw [List.append_nil] at h
  refine ⟨h.1, ?_⟩
  unfold parF
  rw [if_pos h.1, h.2]
theorem ex_short : parE [115, 104, 111, 114, 116] = 101 ∧ parF [115, 104, 111, 114, 116] = zeroE := by
  have h : parE [115, 104, 111, 114, 116] = 101 := by decide
  refine ⟨h, ?_⟩
  unfold parF
  rw [if_neg (by rw [h]; decide)]
/-- What Parse tells, as a variable that is stored. -/
theorem par_at (l : L8) (hl : l.length ≤ 1000000) (w : World) : Calls Try.prog 8 #[.string ⟨l.toArray⟩] w fun e w' => (∃ ao c, e = .returned (.tuple #[.agg #[.bool (parF l).shared, .int .u32 ((parF l).entry : Int), .slice ao (parF l).segs.length c], .int .i64 (parE l : Int)]) ∧ SlG w' (.slice ao (parF l).segs.length c) (parF l).segs) ∧ Below w.heap.size w w' := by
  refine (parse8 l hl w).mono ?_
  rintro e w' ⟨⟨v, rfl, h1⟩, h2⟩
  obtain ⟨ao, c, rfl⟩ := h1.shape
  exact ⟨⟨ao, c, rfl, h1.sl⟩, h2⟩
set_option maxHeartbeats 2000000 in
theorem awake7 (w : World) : Calls Try.prog 7 #[] w fun e w' => e = .returned (.bool true) ∧ Below w.heap.size w w' := by
  obtain ⟨V1, W1, hV1, hW1, ⟨q0, q1, q2⟩, ⟨f0, f1, f2⟩, e1, hb1, hz1⟩ := new3 w (.bool false) (.int .u32 4096) (.slice none 0 0)
  have K15 := write15 exE (.slice none 0 0) W1 (SlG.nil _) (by intro g hg; simp [exE] at hg) (by decide) (by decide)
  have K8 : Hid (∀ w', Calls Try.prog 8 #[.string ⟨(wrL exE).toArray⟩] w' fun e w'' => (∃ ao c, e = .returned (.tuple #[.agg #[.bool false, .int .u32 4096, .slice ao 0 c], .int .i64 0]) ∧ SlG w'' (.slice ao 0 c) []) ∧ Below w'.heap.size w' w'') := fun w' => by
    have h := par_at (wrL exE) (by rw [ex_len]; decide) w'
    rw [ex_par.1, ex_par.2] at h
    exact h
  have K8s : Hid (∀ w', Calls Try.prog 8 #[.string ⟨#[115, 104, 111, 114, 116]⟩] w' fun e w'' => (∃ ao c, e = .returned (.tuple #[.agg #[.bool false, .int .u32 0, .slice ao 0 c], .int .i64 101]) ∧ SlG w'' (.slice ao 0 c) []) ∧ Below w'.heap.size w' w'') := fun w' => by
    have h := par_at [115, 104, 111, 114, 116] (by decide) w'
    rw [ex_short.1, ex_short.2] at h
    exact h
  have KS : Hid (∀ w' v, SlG w' v [] → Calls Try.prog 10 #[.agg #[.bool false, .int .u32 4096, .slice none 0 0], .agg #[.bool false, .int .u32 4096, v]] w' fun e w'' => e = .returned (.bool true) ∧ Below w'.heap.size w' w'') := fun w' v h => rsame10 exE exE (.slice none 0 0) v w' (SlG.nil _) h (by decide)
  have K11 : Hid (∀ w', Calls Try.prog 11 #[.int .u32 5] w' fun e w'' => e = .returned (.int .i64 5) ∧ w'' = w') := fun w' => prots11 5 (by decide) w'
  have hsz : ((⟨(wrL exE).toArray⟩ : ByteArray).size : Int) = 52 := by show (((wrL exE).toArray.size : Nat) : Int) = 52; rw [List.size_toArray, ex_len]; rfl
  have HB1 : Hid (Below w.heap.size w W1 ∧ B3 (.bool false) (.int .u32 4096) (.slice none 0 0) w.heap.size W1) := ⟨hb1, e1⟩
  obtain ⟨g0, g1, g2⟩ := e1.cells
  unfold Ef.val at K15
  simp only [exE] at K15
  change Calls Try.prog 15 #[.agg #[.bool false, .int .u32 4096, .slice none 0 0]] W1 fun r w' => r = .returned (.string ⟨(wrL exE).toArray⟩) ∧ Below W1.heap.size W1 w' at K15
  generalize (⟨(wrL exE).toArray⟩ : ByteArray) = X at *
  clear hb1 hz1 e1
  go_enter Try.func7, Try.ntmps7
  go_wp2_with fail
  refine K15.mono ?_
  rintro e w2 ⟨rfl, hb2⟩
  clear K15 q0 q1 q2 f0 f1 f2 g0 g1 g2 hV1 hW1
  go_wp2_with fail
  refine (K8.out w2).mono ?_
  rintro e w3 ⟨⟨ao, c, rfl, hs3⟩, hb3⟩
  obtain ⟨V4, W4, hV4, hW4, ⟨q0, q1, q2⟩, ⟨f0, f1, f2⟩, e4, hb4, hz4⟩ := new3 w3 (.bool false) (.int .u32 4096) (.slice ao 0 c)
  have H4 : Hid (Below w.heap.size w W4 ∧ B3 (.bool false) (.int .u32 4096) (.slice none 0 0) w.heap.size W4 ∧ B3 (.bool false) (.int .u32 4096) (.slice ao 0 c) w3.heap.size W4 ∧ SlG W4 (.slice ao 0 c) []) := ⟨below_tr (below_tr (below_tr HB1.out.1 hb2) hb3) hb4, ((HB1.out.2.keep hb2).keep hb3).keep hb4, e4, hs3.keep hb4⟩
  clear hb2 hb3 hs3 e4 hb4 hz4 HB1
  go_wp2_with fail
  refine (K8s.out W4).mono ?_
  rintro e w5 ⟨⟨ao', c', rfl, hs5⟩, hb5⟩
  clear q0 q1 q2 f0 f1 f2 hV4 hW4
  obtain ⟨V6, W6, hV6, hW6, ⟨q0, q1, q2⟩, ⟨f0, f1, f2⟩, e6, hb6, hz6⟩ := new3 w5 (.bool false) (.int .u32 0) (.slice ao' 0 c')
  have H6 : Hid (Below w.heap.size w W6 ∧ B3 (.bool false) (.int .u32 4096) (.slice none 0 0) w.heap.size W6 ∧ B3 (.bool false) (.int .u32 4096) (.slice ao 0 c) w3.heap.size W6 ∧ SlG W6 (.slice ao 0 c) []) := ⟨below_tr (below_tr H4.out.1 hb5) hb6, (H4.out.2.1.keep hb5).keep hb6, (H4.out.2.2.1.keep hb5).keep hb6, (H4.out.2.2.2.keep hb5).keep hb6⟩
  obtain ⟨p0, p1, p2⟩ := H6.out.2.1.cells
  obtain ⟨r0, r1, r2⟩ := H6.out.2.2.1.cells
  clear hb5 hs5 e6 hb6 hz6 H4
  go_wp2_with fail
  refine (KS.out W6 _ H6.out.2.2.2).mono ?_
  rintro e w7 ⟨rfl, hb7⟩
  clear q0 q1 q2 f0 f1 f2 hV6 hW6 p0 p1 p2 r0 r1 r2
  go_wp2_with fail
  refine (K11.out w7).mono ?_
  rintro e w8 ⟨rfl, rfl⟩
  go_wp2
  go_ret
  exact ⟨rfl, below_tr H6.out.1 hb7⟩
set_option maxHeartbeats 4000000 in
theorem cuts_walk (l m : L8) (cut : Nat) (hc : cut < 65536) (w : World) :
    Calls Try.prog 6 #[.string ⟨l.toArray⟩, .int .u16 (cut : Int), .string ⟨m.toArray⟩] w fun e w' => e = .returned (.bool true) ∧ Below w.heap.size w w' := by
  obtain ⟨S, hS⟩ : ∃ S : ByteArray, S = ⟨l.toArray⟩ := ⟨_, rfl⟩
  obtain ⟨M, hM⟩ : ∃ S : ByteArray, S = ⟨m.toArray⟩ := ⟨_, rfl⟩
  have hSz : S.size = l.length := by rw [← bt_len, hS, bal]
  have hMz : M.size = m.length := by rw [← bt_len, hM, bal]
  have KA : Hid (∀ w', Calls Try.prog 7 #[] w' fun e w'' => e = .returned (.bool true) ∧ Below w'.heap.size w' w'') := awake7
  rw [← hS, ← hM]
  by_cases h1 : 5000 < l.length
  · have i1 : (5000 : Int) < (S.size : Int) := by omega
    have d1 := decide_eq_true i1
    clear hS hM hSz hMz h1 hc
    go_enter Try.func6, Try.ntmps6
    go_wp2_with fail
    refine (KA.out w).mono ?_
    rintro e w1 ⟨rfl, hb1⟩
    go_wp2
    go_ret
    exact ⟨rfl, hb1⟩
  have i1 : ¬ (5000 : Int) < (S.size : Int) := by omega
  have d1 := decide_eq_false i1
  by_cases h2 : 1000 < m.length
  · have i2 : (1000 : Int) < (M.size : Int) := by omega
    have d2 := decide_eq_true i2
    clear hS hM hSz hMz h1 h2 hc
    go_enter Try.func6, Try.ntmps6
    go_wp2_with fail
    refine (KA.out w).mono ?_
    rintro e w1 ⟨rfl, hb1⟩
    go_wp2
    go_ret
    exact ⟨rfl, hb1⟩
  have i2 : ¬ (1000 : Int) < (M.size : Int) := by omega
  have d2 := decide_eq_false i2
  have K1 := par_at l (by omega) w
  rw [← hS] at K1
  by_cases h3 : parE l = 0
  · obtain ⟨m1, m2⟩ := more_same h3 m
    have hF : parF l = efAt l := by unfold parF; rw [if_pos h3]
    have hFm : parF (l ++ m) = efAt l := by unfold parF; rw [if_pos m1, m2]
    have hw := (parse_write (par_zero h3).1).2
    rw [hF, h3] at K1
    have hap : S ++ M = ⟨(l ++ m).toArray⟩ := by rw [hS, hM, ba_app]
    have K2 : Hid (∀ w', Calls Try.prog 8 #[.string (S ++ M)] w' fun e w'' => (∃ ao c, e = .returned (.tuple #[.agg #[.bool (efAt l).shared, .int .u32 ((efAt l).entry : Int), .slice ao (efAt l).segs.length c], .int .i64 0]) ∧ SlG w'' (.slice ao (efAt l).segs.length c) (efAt l).segs) ∧ Below w'.heap.size w' w'') := fun w' => by
      have h := par_at (l ++ m) (by rw [List.length_append]; omega) w'
      rw [hFm, m1, ← hap] at h
      exact h
    obtain ⟨N, hN⟩ : ∃ N, N = (efAt l).segs.length := ⟨_, rfl⟩
    obtain ⟨K, hK⟩ : ∃ K, K = cut % (52 + 32 * N) := ⟨_, rfl⟩
    have hKlt : K < 52 + 32 * N := by rw [hK]; exact Nat.mod_lt _ (by omega)
    have h101 := cut_short h3 K (by rw [← hN]; exact hKlt)
    have hz : parF (l.take K) = zeroE := by unfold parF; rw [if_neg (by rw [h101]; decide)]
    have hN16 : N ≤ 1000 := by
      obtain ⟨_, _, _, _, _, g6⟩ := hd_zero (par_zero h3).1
      have := (fitE_parts g6).1
      omega
    have hex : S.extract 0 K = ⟨(l.take K).toArray⟩ := by rw [ext_list, hS, bal, List.drop_zero]
    have K3 : Hid (∀ w', Calls Try.prog 8 #[.string (S.extract 0 K)] w' fun e w'' => (∃ ao c, e = .returned (.tuple #[.agg #[.bool false, .int .u32 0, .slice ao 0 c], .int .i64 101]) ∧ SlG w'' (.slice ao 0 c) []) ∧ Below w'.heap.size w' w'') := fun w' => by
      have h := par_at (l.take K) (by simp; omega) w'
      rw [hz, h101, ← hex] at h
      exact h
    have KS : Hid (∀ w' v v', SlG w' v (efAt l).segs → SlG w' v' (efAt l).segs → Calls Try.prog 10 #[.agg #[.bool (efAt l).shared, .int .u32 ((efAt l).entry : Int), v], .agg #[.bool (efAt l).shared, .int .u32 ((efAt l).entry : Int), v']] w' fun e w'' => e = .returned (.bool true) ∧ Below w'.heap.size w' w'') := fun w' v v' h h' => by
      have := rsame10 (efAt l) (efAt l) v v' w' h h' (by omega)
      rw [(sameE_iff _ _).2 rfl] at this
      exact this
    have e1 : (32 : Int) * (N : Int) = ((32 * N : Nat) : Int) := by omega
    have w1 : wrap64 (32 * (N : Int)) = 32 * (N : Int) := by unfold wrap64; omega
    have w2 : wrap64 (52 + 32 * (N : Int)) = 52 + 32 * (N : Int) := by unfold wrap64; omega
    have w3 : wrap64 (cut : Int) = (cut : Int) := by unfold wrap64; omega
    have hrem : (cut : Int).tmod (52 + 32 * (N : Int)) = (K : Int) := by
      rw [show (52 : Int) + 32 * (N : Int) = ((52 + 32 * N : Nat) : Int) from by omega, ← Int.ofNat_tmod, hK]
    have hne : ¬ (52 : Int) + 32 * (N : Int) = 0 := by omega
    have hKS : K ≤ S.size := by omega
    have hKi : (K : Int) ≤ (S.size : Int) := by omega
    have hsum : S.size + M.size ≤ 10000 := by omega
    generalize hGS : (efAt l).segs = GS at *
    generalize hSH : (efAt l).shared = SH at *
    generalize hEN : (efAt l).entry = EN at *
    rw [← hN] at K1 K2
    clear hS hM hSz hMz h1 h2 hc m1 m2 hF hFm hw hap hKlt h101 hz hex e1 hK hGS hSH hEN h3 hN
    go_enter Try.func6, Try.ntmps6
    go_wp2_with fail
    refine K1.mono ?_
    rintro e x1 ⟨⟨ao, c, rfl, hs1⟩, hb1⟩
    obtain ⟨V2, W2, hV2, hW2, ⟨q0, q1, q2⟩, ⟨f0, f1, f2⟩, e2, hb2, hz2⟩ := new3 x1 (.bool SH) (.int .u32 (EN : Int)) (.slice ao N c)
    have H2 : Hid (Below w.heap.size w W2 ∧ B3 (.bool SH) (.int .u32 (EN : Int)) (.slice ao N c) x1.heap.size W2 ∧ SlG W2 (.slice ao N c) GS) := ⟨below_tr hb1 hb2, e2, hs1.keep hb2⟩
    clear K1 hs1 hb1 hb2 e2 hz2
    go_wp2_with fail
    refine (K2.out W2).mono ?_
    rintro e x3 ⟨⟨ao', c', rfl, hs3⟩, hb3⟩
    clear q0 q1 q2 f0 f1 f2 hV2 hW2
    obtain ⟨V4, W4, hV4, hW4, ⟨q0, q1, q2⟩, ⟨f0, f1, f2⟩, e4, hb4, hz4⟩ := new3 x3 (.bool SH) (.int .u32 (EN : Int)) (.slice ao' N c')
    have H4 : Hid (Below w.heap.size w W4 ∧ B3 (.bool SH) (.int .u32 (EN : Int)) (.slice ao N c) x1.heap.size W4 ∧ SlG W4 (.slice ao N c) GS ∧ B3 (.bool SH) (.int .u32 (EN : Int)) (.slice ao' N c') x3.heap.size W4 ∧ SlG W4 (.slice ao' N c') GS) := ⟨below_tr (below_tr H2.out.1 hb3) hb4, (H2.out.2.1.keep hb3).keep hb4, (H2.out.2.2.keep hb3).keep hb4, e4, hs3.keep hb4⟩
    obtain ⟨p0, p1, p2⟩ := H4.out.2.1.cells
    clear hs3 hb3 hb4 e4 hz4 H2
    go_wp2_with fail
    refine (K3.out W4).mono ?_
    rintro e x5 ⟨⟨ao2, c2, rfl, hs5⟩, hb5⟩
    clear q0 q1 q2 f0 f1 f2 hV4 hW4 p0 p1 p2
    obtain ⟨V6, W6, hV6, hW6, ⟨q0, q1, q2⟩, ⟨f0, f1, f2⟩, e6, hb6, hz6⟩ := new3 x5 (.bool false) (.int .u32 0) (.slice ao2 0 c2)
    have H6 : Hid (Below w.heap.size w W6 ∧ B3 (.bool SH) (.int .u32 (EN : Int)) (.slice ao N c) x1.heap.size W6 ∧ SlG W6 (.slice ao N c) GS ∧ B3 (.bool SH) (.int .u32 (EN : Int)) (.slice ao' N c') x3.heap.size W6 ∧ SlG W6 (.slice ao' N c') GS) := by
      obtain ⟨k1, k2, k3, k4, k5⟩ := H4.out
      exact ⟨below_tr (below_tr k1 hb5) hb6, (k2.keep hb5).keep hb6, (k3.keep hb5).keep hb6, (k4.keep hb5).keep hb6, (k5.keep hb5).keep hb6⟩
    obtain ⟨p0, p1, p2⟩ := H6.out.2.1.cells
    obtain ⟨r0, r1, r2⟩ := H6.out.2.2.2.1.cells
    clear hs5 hb5 hb6 e6 hz6 H4
    go_wp2_with fail
    refine (KS.out W6 _ _ H6.out.2.2.1 H6.out.2.2.2.2).mono ?_
    rintro e x7 ⟨rfl, hb7⟩
    clear q0 q1 q2 f0 f1 f2 hV6 hW6 p0 p1 p2 r0 r1 r2
    go_wp2_with fail
    refine (KA.out x7).mono ?_
    rintro e x8 ⟨rfl, hb8⟩
    go_wp2
    go_ret
    exact ⟨rfl, below_tr (below_tr H6.out.1 hb7) hb8⟩
  · have hne : ¬ (parE l : Int) = 0 := by omega
    generalize (parE l : Int) = EE at K1 hne
    generalize parF l = F at K1
    clear hS hM hSz hMz h1 h2 hc h3
    go_enter Try.func6, Try.ntmps6
    go_wp2_with fail
    refine K1.mono ?_
    rintro e w1 ⟨⟨ao, c, rfl, hs1⟩, hb1⟩
    obtain ⟨V6, W6, hV6, hW6, ⟨q0, q1, q2⟩, ⟨f0, f1, f2⟩, e6, hb6, hz6⟩ := new3 w1 (.bool F.shared) (.int .u32 (F.entry : Int)) (.slice ao F.segs.length c)
    have HB : Hid (Below w.heap.size w W6) := below_tr hb1 hb6
    clear K1 hs1 hb1 e6 hb6 hz6
    go_wp2_with fail
    refine (KA.out W6).mono ?_
    rintro e w2 ⟨rfl, hb2⟩
    go_wp2
    go_ret
    exact ⟨rfl, below_tr HB.out hb2⟩
end Go.Proofs.Ythhallhmolgpbaa
