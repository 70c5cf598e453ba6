/- What is proved here: chapter 4's example. -/
import Derived.Test.YtpaanfeleeomnaaGmap2
import Derived.Test.YtpaanfeleeomnaaSpan
import Derived.Test.YtpaanfeleeomnaaStoreF
import Derived.Test.YtpaanfeleeomnaaGdoc
namespace Go.Proofs.Ytpaanfeleeomnaa
open Go.RowKit
set_option linter.unusedVariables false
set_option linter.unusedSimpArgs false
set_option maxRecDepth 100000
/-- A guest's memory is stored into a variable that is there. -/
theorem set4 (w : World) (n C : Nat) (x0 x1 x2 x3 : Value) (ms cs ps : List (Nat × Int)) (ho : OwnG C w x0 x1 x3 ms cs ps) (hn : n < C) (h0 : Free w ⟨n, 0, none⟩) (h1 : Free w ⟨n, 1, none⟩) (h2 : Free w ⟨n, 2, none⟩) (h3 : Free w ⟨n, 3, none⟩) :
    ∃ W, ((((w.setCell ⟨n, 0, none⟩ x0).setCell ⟨n, 1, none⟩ x1).setCell ⟨n, 2, none⟩ x2).setCell ⟨n, 3, none⟩ x3) = W ∧ (∀ B w0, B ≤ n → Below B w0 w → Below B w0 W) ∧ OwnG C W x0 x1 x3 ms cs ps ∧ (W.cell? ⟨n, 0, none⟩ = some x0 ∧ W.cell? ⟨n, 1, none⟩ = some x1 ∧ W.cell? ⟨n, 2, none⟩ = some x2 ∧ W.cell? ⟨n, 3, none⟩ = some x3) ∧
      Free W ⟨n, 0, none⟩ ∧ Free W ⟨n, 1, none⟩ ∧ Free W ⟨n, 2, none⟩ ∧ Free W ⟨n, 3, none⟩ :=
  ⟨_, rfl, fun B w0 hB hb => below_set (below_set (below_set (below_set hb (by simpa using hB) _) (by simpa using hB) _) (by simpa using hB) _) (by simpa using hB) _, res4_G (b := 0) ho hn (Nat.le_refl _), resG4 w n x0 x1 x2 x3 h0 h1 h2 h3,
    (((h0.set _ _).set _ _).set _ _).set _ _, (((h1.set _ _).set _ _).set _ _).set _ _, (((h2.set _ _).set _ _).set _ _).set _ _, (((h3.set _ _).set _ _).set _ _).set _ _⟩
theorem pg_nil (k : IntKind) (w : World) : Pg.Sl k w (.slice none 0 0) [] := ⟨none, 0, rfl, by simp, by omega, fun _ => rfl, fun i hi => by simp at hi⟩
theorem slg_nil (w : World) : SlG w (.slice none 0 0) (.slice none 0 0) (.slice none 0 0) [] [] [] := ⟨sl_nil _ w, sl_nil _ w, pg_nil _ w⟩
theorem ga_m1 : msF [] 4294967296 [] (ksM (added 1 3 1) 1) = [(262144, 3)] := by decide
theorem ga_m2 : msF [(1, 3)] 4294967296 [(262144, 3)] (ksM (added 2 3 1) 1) = [(262144, 3)] := by decide
theorem ga_c (a : Nat) (n : Nat) : clearN [] a n = [] := by
  unfold clearN
  split
  · rfl
  · rfl
theorem ga_p1 : lo [] 1 ++ added 1 3 1 ++ hi [] 1 = [(1, 3)] := by decide
theorem ga_p2 : lo [(1, 3)] 2 ++ added 2 3 1 ++ hi [(1, 3)] 2 = [(1, 3), (2, 3)] := by decide
theorem ga_p3 : lo [(1, 3), (2, 3)] 1 ++ hi [(1, 3), (2, 3)] 1 = [(2, 3)] := by decide
theorem ga_p4 : lo [(2, 3)] 2 ++ hi [(2, 3)] 2 = [] := by decide
theorem ga_r3 : rF [(2, 3)] 4294967296 ([(262144, 3)], []) (ksM (mid [(1, 3), (2, 3)] 1 1) (mid [(1, 3), (2, 3)] 1 1).length) = ([(262144, 3)], []) := by decide
theorem ga_r4 : rF [] 4294967296 ([(262144, 3)], []) (ksM (mid [(2, 3)] 2 2) (mid [(2, 3)] 2 2).length) = ([], []) := by decide
theorem ga_pl : placeOf [(262144, 3)] 262144 = 0 := by decide
theorem ga_fit0 : FitQ [] [] := ⟨by simp, by simp, List.Pairwise.nil, List.Pairwise.nil, fun x hx => by simp at hx, fun x hx => by simp at hx⟩
theorem ga_fit1 : FitQ [(262144, 3)] [] := ⟨by simp, by simp, List.pairwise_singleton _ _, List.Pairwise.nil, fun x hx => by simp at hx; subst hx; simp, fun x hx => by simp at hx⟩
theorem ga_srt2 : Srt [(1, 3), (2, 3)] := by simp [Srt]
theorem ga_k1 (w : World) : Calls Try.prog 18 #[.agg #[.slice none 0 0, .slice none 0 0, .int .u64 4294967296, .slice none 0 0], .int .u32 1, .int .u32 1, .int .i64 3] w fun e w' => ∃ vm' vc' vp', e = .returned (.tuple #[.agg #[vm', vc', .int .u64 4294967296, vp'], .int .i64 0]) ∧ OwnG w.heap.size w' vm' vc' vp' ([(262144, 3)]) ([]) ([(1, 3)]) ∧ Below w.heap.size w w' := by
  have h := gmap18 (.slice none 0 0) (.slice none 0 0) (.slice none 0 0) [] [] [] 4294967296 1 1 3 w (slg_nil w) (by simp) (by simp) (by simp) (by omega) (by omega) List.Pairwise.nil ga_fit0 (fun x hx => by simp at hx) (fun x hx => by simp at hx) (by omega) 1 rfl (by decide) (by decide) (fun x hx => by simp at hx)
  rw [ga_m1, ga_c, ga_p1] at h
  exact h.mono (fun e w' k => by
    rcases k with k | k
    · exact k.2
    · exact absurd k.1 (by decide))
theorem ga_k2 (B : Nat) (vm vc vp : Value) (w : World) (ho : OwnG B w vm vc vp [(262144, 3)] [] [(1, 3)]) : Calls Try.prog 18 #[.agg #[vm, vc, .int .u64 4294967296, vp], .int .u32 2, .int .u32 1, .int .i64 3] w fun e w' => ∃ vm' vc' vp', e = .returned (.tuple #[.agg #[vm', vc', .int .u64 4294967296, vp'], .int .i64 0]) ∧ OwnG w.heap.size w' vm' vc' vp' ([(262144, 3)]) ([]) ([(1, 3), (2, 3)]) ∧ Below w.heap.size w w' := by
  have h := gmap18 vm vc vp [(262144, 3)] [] [(1, 3)] 4294967296 2 1 3 w ho.sl (by simp) (by simp) (by simp) (by omega) (by omega) (List.pairwise_singleton _ _) ga_fit1 (fun x hx => by simp at hx) (fun x hx => by simp at hx) (by omega) 2 rfl (by decide) (by decide) (fun x hx _ _ => by simp at hx; subst hx; decide)
  rw [ga_m2, ga_c, ga_p2] at h
  exact h.mono (fun e w' k => by
    rcases k with k | k
    · exact k.2
    · exact absurd k.1 (by decide))
theorem ga_k3 (B : Nat) (vm vc vp : Value) (w : World) (ho : OwnG B w vm vc vp [(262144, 3)] [] [(1, 3), (2, 3)]) : Calls Try.prog 20 #[.agg #[vm, vc, .int .u64 4294967296, vp], .int .u32 1, .int .u32 1] w fun e w' => ∃ vm' vc' vp', e = .returned (.tuple #[.agg #[vm', vc', .int .u64 4294967296, vp'], .int .i64 0]) ∧ OwnG w.heap.size w' vm' vc' vp' ([(262144, 3)]) ([]) ([(2, 3)]) ∧ Below w.heap.size w w' := by
  have h := gunmap20 vm vc vp [(262144, 3)] [] [(1, 3), (2, 3)] 4294967296 1 1 w ho.sl (by simp) (by simp) (by simp) (by omega) (by omega) ga_srt2 ga_fit1 (fun x hx => by simp at hx) (fun x hx => by simp at hx) (by omega) 1 rfl (fun x hx => by simp at hx; rcases hx with rfl | rfl <;> simp) (by rw [ga_c]; exact ga_fit1) (by decide)
  rw [ga_c, ga_p3, ga_r3] at h
  exact h
theorem ga_k4 (B : Nat) (vm vc vp : Value) (w : World) (ho : OwnG B w vm vc vp [(262144, 3)] [] [(2, 3)]) : Calls Try.prog 20 #[.agg #[vm, vc, .int .u64 4294967296, vp], .int .u32 2, .int .u32 1] w fun e w' => ∃ vm' vc' vp', e = .returned (.tuple #[.agg #[vm', vc', .int .u64 4294967296, vp'], .int .i64 0]) ∧ OwnG w.heap.size w' vm' vc' vp' ([]) ([]) ([]) ∧ Below w.heap.size w w' := by
  have h := gunmap20 vm vc vp [(262144, 3)] [] [(2, 3)] 4294967296 2 1 w ho.sl (by simp) (by simp) (by simp) (by omega) (by omega) (List.pairwise_singleton _ _) ga_fit1 (fun x hx => by simp at hx) (fun x hx => by simp at hx) (by omega) 2 rfl (fun x hx => by simp at hx; subst hx; simp) (by rw [ga_c]; exact ga_fit1) (by decide)
  rw [ga_c, ga_p4, ga_r4] at h
  exact h
theorem ga_k27 (B : Nat) (vm vc vp : Value) (ps : List (Nat × Int)) (w : World) (ho : OwnG B w vm vc vp [(262144, 3)] [] ps) : Calls Try.prog 27 #[.agg #[vm, vc], .int .u64 262144] w fun e w' => e = .returned (.int .i64 0) ∧ Below w.heap.size w w' := by
  have h := place33 vm vc [(262144, 3)] 262144 w ho.1.m (by obtain ⟨_, _, _, a, n, p, _, h⟩ := ho.1.shape; exact ⟨a, n, p, h⟩)
  rw [ga_pl] at h
  exact h
set_option maxHeartbeats 4000000 in
theorem awake9 (w : World) : Calls Try.prog 9 #[] w fun e w' => e = .returned (.bool true) ∧ Below w.heap.size w w' := by
  go_enter Try.func9, Try.ntmps9
  go_wp2_with fail
  refine (ga_k1 w).mono ?_
  rintro e w1 ⟨vm, vc, vp, rfl, ho1, hb1⟩
  obtain ⟨am1, nm1, pm1, ac1, nc1, pc1, rfl, rfl⟩ := ho1.1.shape
  obtain ⟨ap1, np1, pp1, rfl⟩ := own_shape ho1.2
  obtain ⟨W2, hW2, hb2, hsz2, d0, d1, d2, d3, f0, f1, f2, f3⟩ := box4 w1 (.slice am1 nm1 pm1) (.slice ac1 nc1 pc1) (.int .u64 4294967296) (.slice ap1 np1 pp1) 29
  have hz1 := hb1.size
  have hlt : w1.heap.size < W2.heap.size := by omega
  have ho2 := ho1.keep hb2
  have hbw := below_tr hb1 hb2
  go_wp2_with fail
  refine (ga_k27 _ _ _ _ _ W2 ho2).mono ?_
  rintro e w3 ⟨rfl, hb3⟩
  have d0 := keep_cell hb3 d0
  have f0 := f0.keep hb3
  have d1 := keep_cell hb3 d1
  have f1 := f1.keep hb3
  have d2 := keep_cell hb3 d2
  have f2 := f2.keep hb3
  have d3 := keep_cell hb3 d3
  have f3 := f3.keep hb3
  have ho3 := ho2.keep hb3
  have hbw := below_tr hbw hb3
  have hlt3 : w1.heap.size < w3.heap.size := by have := hb3.size; omega
  clear hW2 hsz2
  go_wp2_with fail
  refine (ga_k2 _ _ _ _ w3 ho3).mono ?_
  rintro e w4 ⟨vm, vc, vp, rfl, ho4, hb4⟩
  obtain ⟨am4, nm4, pm4, ac4, nc4, pc4, rfl, rfl⟩ := ho4.1.shape
  obtain ⟨ap4, np4, pp4, rfl⟩ := own_shape ho4.2
  have d0 := keep_cell hb4 d0
  have f0 := f0.keep hb4
  have d1 := keep_cell hb4 d1
  have f1 := f1.keep hb4
  have d2 := keep_cell hb4 d2
  have f2 := f2.keep hb4
  have d3 := keep_cell hb4 d3
  have f3 := f3.keep hb4
  have q0 := f0.frozen
  have q1 := f1.frozen
  have q2 := f2.frozen
  have q3 := f3.frozen
  have hbw := below_tr hbw hb4
  obtain ⟨W5, hW5, hKW5, hoW5, ⟨d0, d1, d2, d3⟩, f0, f1, f2, f3⟩ := set4 w4 w1.heap.size _ (.slice am4 nm4 pm4) (.slice ac4 nc4 pc4) (.int .u64 4294967296) (.slice ap4 np4 pp4) _ _ _ ho4 hlt3 f0 f1 f2 f3
  have hbw := hKW5 _ _ hz1 hbw
  have hlt5 : w1.heap.size < W5.heap.size := World.block_lt_of_cell? W5 _ d0
  go_wp2_with fail
  refine (ga_k3 _ _ _ _ W5 hoW5).mono ?_
  rintro e w6 ⟨vm, vc, vp, rfl, ho6, hb6⟩
  obtain ⟨am6, nm6, pm6, ac6, nc6, pc6, rfl, rfl⟩ := ho6.1.shape
  obtain ⟨ap6, np6, pp6, rfl⟩ := own_shape ho6.2
  have d0 := keep_cell hb6 d0
  have f0 := f0.keep hb6
  have d1 := keep_cell hb6 d1
  have f1 := f1.keep hb6
  have d2 := keep_cell hb6 d2
  have f2 := f2.keep hb6
  have d3 := keep_cell hb6 d3
  have f3 := f3.keep hb6
  have q0 := f0.frozen
  have q1 := f1.frozen
  have q2 := f2.frozen
  have q3 := f3.frozen
  have hbw := below_tr hbw hb6
  clear hW5
  obtain ⟨W7, hW7, hKW7, hoW7, ⟨d0, d1, d2, d3⟩, f0, f1, f2, f3⟩ := set4 w6 w1.heap.size _ (.slice am6 nm6 pm6) (.slice ac6 nc6 pc6) (.int .u64 4294967296) (.slice ap6 np6 pp6) _ _ _ ho6 hlt5 f0 f1 f2 f3
  have hbw := hKW7 _ _ hz1 hbw
  go_wp2_with fail
  refine (ga_k27 _ _ _ _ _ W7 hoW7).mono ?_
  rintro e w8 ⟨rfl, hb8⟩
  have d0 := keep_cell hb8 d0
  have f0 := f0.keep hb8
  have d1 := keep_cell hb8 d1
  have f1 := f1.keep hb8
  have d2 := keep_cell hb8 d2
  have f2 := f2.keep hb8
  have d3 := keep_cell hb8 d3
  have f3 := f3.keep hb8
  have ho8 := hoW7.keep hb8
  have hbw := below_tr hbw hb8
  have hlt8 : w1.heap.size < w8.heap.size := World.block_lt_of_cell? w8 _ d0
  clear hW7
  go_wp2_with fail
  refine (ga_k4 _ _ _ _ w8 ho8).mono ?_
  rintro e w9 ⟨vm, vc, vp, rfl, ho9, hb9⟩
  obtain ⟨am9, nm9, pm9, ac9, nc9, pc9, rfl, rfl⟩ := ho9.1.shape
  obtain ⟨ap9, np9, pp9, rfl⟩ := own_shape ho9.2
  have d0 := keep_cell hb9 d0
  have f0 := f0.keep hb9
  have d1 := keep_cell hb9 d1
  have f1 := f1.keep hb9
  have d2 := keep_cell hb9 d2
  have f2 := f2.keep hb9
  have d3 := keep_cell hb9 d3
  have f3 := f3.keep hb9
  have q0 := f0.frozen
  have q1 := f1.frozen
  have q2 := f2.frozen
  have q3 := f3.frozen
  have hbw := below_tr hbw hb9
  have hn9 : nm9 = 0 := by
    obtain ⟨_, _, hsl, _⟩ := ho9.1.m
    cases hsl
    rfl
  subst hn9
  obtain ⟨W10, hW10, hKW10, hoW10, ⟨d0, d1, d2, d3⟩, f0, f1, f2, f3⟩ := set4 w9 w1.heap.size _ (.slice am9 0 pm9) (.slice ac9 nc9 pc9) (.int .u64 4294967296) (.slice ap9 np9 pp9) _ _ _ ho9 hlt8 f0 f1 f2 f3
  have hbw := hKW10 _ _ hz1 hbw
  go_wp2
  go_ret
  exact ⟨rfl, by first | exact hbw | (rw [hW10]; exact hbw)⟩
end Go.Proofs.Ytpaanfeleeomnaa
