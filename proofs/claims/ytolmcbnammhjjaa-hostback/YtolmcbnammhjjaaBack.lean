/- What is proved here: the law HostBack, walked. -/
import Derived.Test.YtolmcbnammhjjaaBackPlain
namespace Go.Proofs.Ytolmcbnammhjjaa
open Go.RowKit
set_option linter.unusedVariables false
set_option maxHeartbeats 4000000 in
set_option maxRecDepth 100000 in
theorem back_walk (vm vc : Value) (ms cs : List (Nat × Int)) (a nn v b : Nat) (w : World) (hm : Sl .i64 w vm ms) (hc : Sl .u64 w vc cs) (hrc : ∀ y ∈ cs, y.1 < 18446744073709551616) (hw : Words cs)
    (ha : a < 18446744073709551616) (hnn : nn < 256) (hv : v < 18446744073709551616) (hbb : b < 18446744073709551616) :
    Calls Try.prog 5 #[.agg #[vm, vc], .int .u64 (a : Int), .int .u8 (nn : Int), .int .u64 (v : Int), .int .u64 (b : Int)] w fun e w' => e = .returned (.bool true) ∧ Below w.heap.size w w' := by
  obtain ⟨W, hW, hb, hsz, c0, c1, _, _⟩ := box2 w vm vc 25
  obtain ⟨am, pm, rfl, lpm1, lpm2⟩ : ∃ a p, vm = .slice a ms.length p ∧ ms.length ≤ p ∧ p ≤ 9223372036854775807 := by obtain ⟨a, p, h, h1, h2, _⟩ := id hm; exact ⟨_, _, h, h1, h2⟩
  obtain ⟨ac, pc, rfl, lpc1, lpc2⟩ : ∃ a p, vc = .slice a cs.length p ∧ cs.length ≤ p ∧ p ≤ 9223372036854775807 := by obtain ⟨a, p, h, h1, h2, _⟩ := id hc; exact ⟨_, _, h, h1, h2⟩
  have K8 := few8 am ac ms.length pm cs.length pc W (by omega) (by omega)
  have K13 : Hid (∀ w', Calls Try.prog 13 #[] w' fun e w'' => e = .returned (.bool true) ∧ Below w'.heap.size w' w'') := awake13
  have hrc' : ∀ i, (cs.getD i (0, 0)).1 < 18446744073709551616 := fun i => by
    by_cases hi : i < cs.length
    · rw [getD_at hi]; exact hrc _ (List.getElem_mem hi)
    · rw [List.getD_eq_getElem?_getD, List.getElem?_eq_none (by omega)]; decide
  have K10 : Hid (∀ w', Below W.heap.size W w' → Calls Try.prog 10 #[.agg #[.slice am ms.length pm, .slice ac cs.length pc]] w' fun e w'' => e = .returned (.bool (fitB ms cs)) ∧ Below w'.heap.size w' w'') := fun w' hb' =>
    rfit10 _ _ ms cs w' (hm.keep (below_tr hb hb')) (hc.keep (below_tr hb hb')) hrc'
  clear lpm1 lpm2 lpc1 lpc2
  by_cases hfew : ms.length ≤ 70 ∧ cs.length ≤ 200
  case neg =>
    rw [decide_eq_false hfew] at K8
    have HM : Hid (Sl .i64 w (.slice am ms.length pm) ms ∧ Sl .u64 w (.slice ac cs.length pc) cs) := ⟨hm, hc⟩
    clear hfew hm hc
    go_enter Try.func5, Try.ntmps5
    go_wp2_with fail
    refine K8.mono ?_
    rintro e w1 ⟨rfl, hb1⟩
    go_wp2_with fail
    refine (K13.out w1).mono ?_
    rintro e wz ⟨rfl, hbz⟩
    go_wp2
    go_ret
    exact ⟨rfl, (by (repeat (first | with_reducible assumption | with_reducible exact Below.refl _ _ | with_reducible refine Below.drew ?_ | with_reducible refine below_alloc ?_ _ | (with_reducible refine below_set ?_ ?_ _; rotate_left; focus (first | (simp; done) | (simp; omega))) | with_reducible refine below_tr ?_ (by with_reducible assumption))))⟩
  rw [decide_eq_true hfew] at K8
  cases hfit : fitB ms cs with
  | false =>
    rw [hfit] at K10
    clear hfew hm hc hfit
    go_enter Try.func5, Try.ntmps5
    go_wp2_with fail
    refine K8.mono ?_
    rintro e w1 ⟨rfl, hb1⟩
    have e0 := keep_cell hb1 c0
    have e1 := keep_cell hb1 c1
    clear K8
    go_wp2_with fail
    refine (K10.out w1 hb1).mono ?_
    rintro e w2 ⟨rfl, hb2⟩
    go_wp2_with fail
    refine (K13.out w2).mono ?_
    rintro e wz ⟨rfl, hbz⟩
    go_wp2
    go_ret
    exact ⟨rfl, (by (repeat (first | with_reducible assumption | with_reducible exact Below.refl _ _ | with_reducible refine Below.drew ?_ | with_reducible refine below_alloc ?_ _ | (with_reducible refine below_set ?_ ?_ _; rotate_left; focus (first | (simp; done) | (simp; omega))) | with_reducible refine below_tr ?_ (by with_reducible assumption))))⟩
  | true =>
  rw [hfit] at K10
  have HQ := q_fitB hfit
  clear hfit
  have lms : ms.length ≤ 1073741824 := by omega
  have lcs : cs.length ≤ 1073741822 := by omega
  obtain ⟨k, hk⟩ : ∃ k, k = nn % 8 + 1 := ⟨_, rfl⟩
  have xk : (nn : Int) % 8 + 1 = (k : Int) := by omega
  have k1 : 1 ≤ k := by omega
  have k8 : k ≤ 8 := by omega
  have K22 : Hid (∀ w', Below W.heap.size W w' → Calls Try.prog 22 #[.agg #[.slice am ms.length pm, .slice ac cs.length pc], .int .u64 (a : Int), .int .i64 (k : Int), .int .u64 (v : Int)] w' fun e w'' => ∃ vm' vc', e = .returned (.tuple #[.agg #[vm', vc'], .agg #[.int .i64 (faultFrom ms a 2 0 k).1, .int .u64 ((faultFrom ms a 2 0 k).2 : Int)]]) ∧ OwnH w'.heap.size w'' vm' vc' ms (storeV ms cs a k v) ∧ Below w'.heap.size w' w'') := fun w' hb' =>
    store22_any _ _ ms cs a k v w' (hm.keep (below_tr hb hb')) (hc.keep (below_tr hb hb')) HQ.2.2.1 HQ.2.2.2.1 lms lcs hw ha k1 k8 hv
  by_cases hf : (faultFrom ms a 2 0 k).1 = 0
  case neg =>
    obtain ⟨j, j1, j2, hj⟩ := faultFrom_at ms a 2 k 0 hf
    rw [storeV, if_neg hf] at K22
    obtain ⟨fk, hfk⟩ : ∃ x, x = (faultFrom ms a 2 0 k).1 := ⟨_, rfl⟩
    obtain ⟨fa, hfa⟩ : ∃ x, x = (faultFrom ms a 2 0 k).2 := ⟨_, rfl⟩
    rw [← hfk, ← hfa] at K22
    have hne : (fk != 0) = true := by rw [hfk]; simpa using hf
    have hlt : IntKind.u64.wrap ((fa : Int) - (a : Int)) < 8 := by rw [IntKind.wrap_u64, hfa, hj]; omega
    have K12 : Hid (∀ B vm' vc' w', OwnH B w' vm' vc' ms cs → Below w.heap.size w w' → Calls Try.prog 12 #[.agg #[vm', vc'], .agg #[.slice am ms.length pm, .slice ac cs.length pc]] w' fun e w'' => e = .returned (.bool true) ∧ Below w'.heap.size w' w'') := fun B vm' vc' w' ho hb' => by
      have h := rsame12 vm' vc' _ _ ms cs ms cs w' ho.m ho.c (hm.keep hb') (hc.keep hb')
      rw [decide_eq_true (⟨rfl, rfl⟩ : ms = ms ∧ cs = cs)] at h
      exact h
    clear hm hc hfew hw HQ lms lcs hrc hrc' hf hj hfk hfa hk hv hbb
    go_enter Try.func5, Try.ntmps5
    go_wp2_with fail
    refine K8.mono ?_
    rintro e w1 ⟨rfl, hb1⟩
    have e0 := keep_cell hb1 c0
    have e1 := keep_cell hb1 c1
    clear K8
    go_wp2_with fail
    refine (K10.out w1 hb1).mono ?_
    rintro e w2 ⟨rfl, hb2⟩
    clear K10
    have e0 := keep_cell hb2 e0
    have e1 := keep_cell hb2 e1
    have hbW := below_tr hb1 hb2
    go_wp2_with fail
    refine (K22.out w2 hbW).mono ?_
    rintro e w3 ⟨vm3, vc3, rfl, ho3, hb3⟩
    obtain ⟨am3, nm3, pm3, ac3, nc3, pc3, rfl, rfl⟩ := ho3.shape
    obtain ⟨X4, hX4, hx4, hszx, d0, d1, _, _⟩ := box2 w3 (.slice am3 nm3 pm3) (.slice ac3 nc3 pc3) 25
    obtain ⟨W4, hW4, hb4, hsz4, g0, g1, _, _⟩ := box2 X4 (.int .i64 fk) (.int .u64 (fa : Int)) 39
    rw [hszx] at g0 g1
    have d0 := keep_cell hb4 d0
    have d1 := keep_cell hb4 d1
    have hb4 := below_tr hx4 hb4
    have e0 := keep_cell hb4 (keep_cell hb3 e0)
    have e1 := keep_cell hb4 (keep_cell hb3 e1)
    have hbw4 : Below w.heap.size w W4 := below_tr (below_tr (below_tr hb hbW) hb3) hb4
    go_wp2_with fail
    refine (K12.out _ _ _ W4 (ho3.keep hb4) hbw4).mono ?_
    rintro e w5 ⟨rfl, hb5⟩
    have g0 := keep_cell hb5 g0
    have g1 := keep_cell hb5 g1
    go_wp2_with fail
    refine (K13.out w5).mono ?_
    rintro e wz ⟨rfl, hbz⟩
    go_wp2
    go_ret
    exact ⟨rfl, (by (repeat (first | with_reducible assumption | with_reducible exact Below.refl _ _ | with_reducible refine Below.drew ?_ | with_reducible refine below_alloc ?_ _ | (with_reducible refine below_set ?_ ?_ _; rotate_left; focus (first | (simp; done) | (simp; omega))) | with_reducible refine below_tr ?_ (by with_reducible assumption))))⟩
  obtain ⟨q2, w2', rc2⟩ := fit_store HQ hw hrc (by omega) a k v k1 hf
  obtain ⟨hf0, hfj⟩ := faultFrom_kind ms a 2 k 0 hf
  have hne1 := faultFrom_ne1 ms a 2 1 k 0 (fun j h1 h2 => hfj j h1 h2)
  have hend : a + (k - 1) < 18446744073709551616 := faultK_lt ms a (k - 1) 2 (hfj _ (by omega) (by omega))
  have HLS : Hid (loadN (storeN cs a k v) a k = v % 2 ^ (8 * k)) := load_store cs hw (words_store hw) a k v k1 k8
  have HLO : Hid (¬ (a ≤ b ∧ b < a + k) → loadN (storeN cs a k v) b 1 = loadN cs b 1) := load_other cs hw (words_store hw) a k v b k1 k8
  have lst : (storeN cs a k v).length ≤ 65536 := q2.2.1
  rw [storeV, if_pos hf, hf0] at K22
  obtain ⟨st, hst⟩ : ∃ x, x = storeN cs a k v := ⟨_, rfl⟩
  rw [← hst] at q2 w2' rc2 K22 lst HLS HLO
  obtain ⟨wv, hwv⟩ : ∃ x, x = v % 2 ^ (8 * k) := ⟨_, rfl⟩
  rw [← hwv] at HLS
  have xm : k < 8 → bits .and .u64 (v : Int) (IntKind.u64.wrap (IntKind.u64.wrap (2 ^ (8 * k)) - 1)) = (wv : Int) := fun h => by rw [hwv]; exact maskW v k hv (by omega)
  have x8 : ¬ k < 8 → v = wv := fun h => by obtain rfl : k = 8 := by omega
                                            rw [hwv]; exact (Nat.mod_eq_of_lt hv).symm
  obtain ⟨gk, hgk⟩ : ∃ x, x = (faultFrom ms a 1 0 k).1 := ⟨_, rfl⟩
  obtain ⟨ga, hga⟩ : ∃ x, x = (faultFrom ms a 1 0 k).2 := ⟨_, rfl⟩
  obtain ⟨lv, hlv⟩ : ∃ x, x = loadV ms st a k := ⟨_, rfl⟩
  obtain ⟨pk, hpk⟩ : ∃ x, x = (faultFrom ms b 1 0 1).1 := ⟨_, rfl⟩
  obtain ⟨pa, hpa⟩ : ∃ x, x = (faultFrom ms b 1 0 1).2 := ⟨_, rfl⟩
  obtain ⟨lx, hlx⟩ : ∃ x, x = loadV ms cs b 1 := ⟨_, rfl⟩
  obtain ⟨ly, hly⟩ : ∃ x, x = loadV ms st b 1 := ⟨_, rfl⟩
  have K20 : Hid (∀ B vm' vc' w', OwnH B w' vm' vc' ms st → Calls Try.prog 20 #[.agg #[vm', vc'], .int .u64 (a : Int), .int .i64 (k : Int)] w' fun e w'' => e = .returned (.tuple #[.int .u64 (lv : Int), .agg #[.int .i64 gk, .int .u64 (ga : Int)]]) ∧ Below w'.heap.size w' w'') := fun B vm' vc' w' ho => by
    have h := load20_any vm' vc' ms st a k w' ho.m ho.c q2.2.2.1 q2.2.2.2.1 lms (by omega) w2' ha k1 k8
    rw [← hgk, ← hga, ← hlv] at h
    exact h
  have K20h : Hid (∀ w', Below w.heap.size w w' → Calls Try.prog 20 #[.agg #[.slice am ms.length pm, .slice ac cs.length pc], .int .u64 (b : Int), .int .i64 1] w' fun e w'' => e = .returned (.tuple #[.int .u64 (lx : Int), .agg #[.int .i64 pk, .int .u64 (pa : Int)]]) ∧ Below w'.heap.size w' w'') := fun w' hb' => by
    have h := load20_any _ _ ms cs b 1 w' (hm.keep hb') (hc.keep hb') HQ.2.2.1 HQ.2.2.2.1 lms (by omega) hw hbb (by omega) (by omega)
    rw [← hpk, ← hpa, ← hlx] at h
    exact h
  have K20c : Hid (∀ B vm' vc' w', OwnH B w' vm' vc' ms st → Calls Try.prog 20 #[.agg #[vm', vc'], .int .u64 (b : Int), .int .i64 1] w' fun e w'' => e = .returned (.tuple #[.int .u64 (ly : Int), .agg #[.int .i64 pk, .int .u64 (pa : Int)]]) ∧ Below w'.heap.size w' w'') := fun B vm' vc' w' ho => by
    have h := load20_any vm' vc' ms st b 1 w' ho.m ho.c q2.2.2.1 q2.2.2.2.1 lms (by omega) w2' hbb (by omega) (by omega)
    rw [← hpk, ← hpa, ← hly] at h
    exact h
  have K10b : Hid (∀ B vm' vc' w', OwnH B w' vm' vc' ms st → Calls Try.prog 10 #[.agg #[vm', vc']] w' fun e w'' => e = .returned (.bool true) ∧ Below w'.heap.size w' w'') := fun B vm' vc' w' ho => by
    have h := rfit10 vm' vc' ms st w' ho.m ho.c (fun i => by
      by_cases hi : i < st.length
      · rw [getD_at hi]; exact rc2 _ (List.getElem_mem hi)
      · rw [List.getD_eq_getElem?_getD, List.getElem?_eq_none (by omega)]; decide)
    rw [fitB_q q2] at h
    exact h
  have hgk1 : (gk == 1) = false := by rw [hgk]; simpa using hne1
  have HG : Hid (gk = 0 → lv = wv) := fun e => by rw [hlv, loadV, ← hgk, if_pos e, HLS.out]
  have HY : Hid (¬ (a ≤ b ∧ b < a + k) → ly = lx) := fun e => by
    rw [hly, hlx, loadV, loadV]
    split
    · exact HLO.out e
    · rfl
  have HIN : Hid (IntKind.u64.wrap ((b : Int) - (a : Int)) < (k : Int) ↔ (a ≤ b ∧ b < a + k)) := by
    show _ ↔ _
    rw [IntKind.wrap_u64]; omega
  have x46 : IntKind.u64.wrap (k : Int) = (k : Int) := by rw [IntKind.wrap_u64]; omega
  have x47 : IntKind.u64.wrap (8 * (k : Int)) = ((8 * k : Nat) : Int) := by rw [IntKind.wrap_u64]; omega
  clear hm hc hfew hw HQ lms lcs hrc hrc' hf hfj hf0 hne1 hend HLS HLO lst q2 w2' rc2 hst hgk hga hlv hpk hpa hlx hly hbb ha hwv hk
  by_cases hk8 : k < 8
  · have xm := xm hk8
    clear x8
    by_cases hg : gk = 0
    · obtain rfl := HG.out hg
      have hg0 : (gk == 0) = true := by simpa using hg
      clear hg
      by_cases hin : a ≤ b ∧ b < a + k
      · have hin' := decide_eq_true (HIN.out.2 hin)
        clear hin HIN HG HY
        go_enter Try.func5, Try.ntmps5
        go_wp2_with fail
        refine K8.mono ?_
        rintro e w1 ⟨rfl, hb1⟩
        have e0 := keep_cell hb1 c0
        have e1 := keep_cell hb1 c1
        clear K8
        go_wp2_with fail
        refine (K10.out w1 hb1).mono ?_
        rintro e w2 ⟨rfl, hb2⟩
        clear K10
        have e0 := keep_cell hb2 e0
        have e1 := keep_cell hb2 e1
        have hbW := below_tr hb1 hb2
        go_wp2_with fail
        refine (K22.out w2 hbW).mono ?_
        rintro e w3 ⟨vm3, vc3, rfl, ho3, hb3⟩
        obtain ⟨am3, nm3, pm3, ac3, nc3, pc3, rfl, rfl⟩ := ho3.shape
        obtain ⟨X4, hX4, hx4, hszx, d0, d1, _, _⟩ := box2 w3 (.slice am3 nm3 pm3) (.slice ac3 nc3 pc3) 25
        obtain ⟨Y4, hY4, hy4, hsz4, l0, l1, lf0, lf1⟩ := box2 X4 (.int .i64 0) (.int .u64 0) 39
        rw [hszx] at l0 l1 lf0 lf1
        have d0 := keep_cell hy4 d0
        have d1 := keep_cell hy4 d1
        obtain ⟨W4, hW4⟩ : ∃ W4, (Y4.setCell ⟨w3.heap.size + 1, 0, none⟩ (.int .i64 0)).setCell ⟨w3.heap.size + 1, 1, none⟩ (.int .u64 0) = W4 := ⟨_, rfl⟩
        obtain ⟨g0, g1⟩ := res2 Y4 (w3.heap.size + 1) (.int .i64 0) (.int .u64 0) ⟨⟨_, l0⟩, lf0⟩ ⟨⟨_, l1⟩, lf1⟩
        rw [hW4] at g0 g1
        have d0 : W4.cell? ⟨w3.heap.size, 0, none⟩ = some (.slice am3 nm3 pm3) := by rw [← hW4]; exact cell_far (cell_far d0 (by simp) _) (by simp) _
        have d1 : W4.cell? ⟨w3.heap.size, 1, none⟩ = some (.slice ac3 nc3 pc3) := by rw [← hW4]; exact cell_far (cell_far d1 (by simp) _) (by simp) _
        have hb4 : Below w3.heap.size w3 W4 := by rw [← hW4]; exact below_set (below_set (below_tr hx4 hy4) (by simp) _) (by simp) _
        have e0 := keep_cell hb4 (keep_cell hb3 e0)
        have e1 := keep_cell hb4 (keep_cell hb3 e1)
        have ho4 := ho3.keep hb4
        have hbw4 : Below w.heap.size w W4 := below_tr (below_tr (below_tr hb hbW) hb3) hb4
        clear hb hbW hb1 hb2 hb3 hx4 hy4 hb4 hsz4
        go_wp2_with fail
        refine (K20.out _ _ _ W4 ho4).mono ?_
        rintro e w5 ⟨rfl, hb5⟩
        obtain ⟨W6, hW6, hb6, _, m0, m1, _, _⟩ := box2 w5 (.int .i64 gk) (.int .u64 (ga : Int)) 39
        have d0 := keep_cell hb6 (keep_cell hb5 d0)
        have d1 := keep_cell hb6 (keep_cell hb5 d1)
        have e0 := keep_cell hb6 (keep_cell hb5 e0)
        have e1 := keep_cell hb6 (keep_cell hb5 e1)
        have ho6 := (ho4.keep hb5).keep hb6
        have hbw6 := below_tr (below_tr hbw4 hb5) hb6
        clear hb5 hb6 hbw4
        go_wp2_with fail
        refine (K20h.out W6 hbw6).mono ?_
        rintro e w7 ⟨rfl, hb7⟩
        obtain ⟨W8, hW8, hb8, _, n0, n1, _, _⟩ := box2 w7 (.int .i64 pk) (.int .u64 (pa : Int)) 39
        have d0 := keep_cell hb8 (keep_cell hb7 d0)
        have d1 := keep_cell hb8 (keep_cell hb7 d1)
        have ho8 := (ho6.keep hb7).keep hb8
        have hbw8 := below_tr (below_tr hbw6 hb7) hb8
        clear hb7 hb8 hbw6
        go_wp2_with fail
        refine (K20c.out _ _ _ W8 ho8).mono ?_
        rintro e w9 ⟨rfl, hb9⟩
        obtain ⟨Wa, hWa, hba, _, o0, o1, _, _⟩ := box2 w9 (.int .i64 pk) (.int .u64 (pa : Int)) 39
        have d0 := keep_cell hba (keep_cell hb9 d0)
        have d1 := keep_cell hba (keep_cell hb9 d1)
        have n0 := keep_cell hba (keep_cell hb9 n0)
        have n1 := keep_cell hba (keep_cell hb9 n1)
        have hoa := (ho8.keep hb9).keep hba
        have hbwa := below_tr (below_tr hbw8 hb9) hba
        clear hb9 hba hbw8
        go_wp2_with fail
        refine (K10b.out _ _ _ Wa hoa).mono ?_
        rintro e wc ⟨rfl, hbc⟩
        go_wp2_with fail
        refine (K13.out wc).mono ?_
        rintro e wz ⟨rfl, hbz⟩
        go_wp2
        go_ret
        exact ⟨rfl, (by (repeat (first | with_reducible assumption | with_reducible exact Below.refl _ _ | with_reducible refine Below.drew ?_ | with_reducible refine below_alloc ?_ _ | (with_reducible refine below_set ?_ ?_ _; rotate_left; focus (first | (simp; done) | (simp; omega))) | with_reducible refine below_tr ?_ (by with_reducible assumption))))⟩
      · have hin' := decide_eq_false (fun h => hin (HIN.out.1 h))
        obtain rfl := HY.out hin
        clear hin HIN HG HY
        go_enter Try.func5, Try.ntmps5
        go_wp2_with fail
        refine K8.mono ?_
        rintro e w1 ⟨rfl, hb1⟩
        have e0 := keep_cell hb1 c0
        have e1 := keep_cell hb1 c1
        clear K8
        go_wp2_with fail
        refine (K10.out w1 hb1).mono ?_
        rintro e w2 ⟨rfl, hb2⟩
        clear K10
        have e0 := keep_cell hb2 e0
        have e1 := keep_cell hb2 e1
        have hbW := below_tr hb1 hb2
        go_wp2_with fail
        refine (K22.out w2 hbW).mono ?_
        rintro e w3 ⟨vm3, vc3, rfl, ho3, hb3⟩
        obtain ⟨am3, nm3, pm3, ac3, nc3, pc3, rfl, rfl⟩ := ho3.shape
        obtain ⟨X4, hX4, hx4, hszx, d0, d1, _, _⟩ := box2 w3 (.slice am3 nm3 pm3) (.slice ac3 nc3 pc3) 25
        obtain ⟨Y4, hY4, hy4, hsz4, l0, l1, lf0, lf1⟩ := box2 X4 (.int .i64 0) (.int .u64 0) 39
        rw [hszx] at l0 l1 lf0 lf1
        have d0 := keep_cell hy4 d0
        have d1 := keep_cell hy4 d1
        obtain ⟨W4, hW4⟩ : ∃ W4, (Y4.setCell ⟨w3.heap.size + 1, 0, none⟩ (.int .i64 0)).setCell ⟨w3.heap.size + 1, 1, none⟩ (.int .u64 0) = W4 := ⟨_, rfl⟩
        obtain ⟨g0, g1⟩ := res2 Y4 (w3.heap.size + 1) (.int .i64 0) (.int .u64 0) ⟨⟨_, l0⟩, lf0⟩ ⟨⟨_, l1⟩, lf1⟩
        rw [hW4] at g0 g1
        have d0 : W4.cell? ⟨w3.heap.size, 0, none⟩ = some (.slice am3 nm3 pm3) := by rw [← hW4]; exact cell_far (cell_far d0 (by simp) _) (by simp) _
        have d1 : W4.cell? ⟨w3.heap.size, 1, none⟩ = some (.slice ac3 nc3 pc3) := by rw [← hW4]; exact cell_far (cell_far d1 (by simp) _) (by simp) _
        have hb4 : Below w3.heap.size w3 W4 := by rw [← hW4]; exact below_set (below_set (below_tr hx4 hy4) (by simp) _) (by simp) _
        have e0 := keep_cell hb4 (keep_cell hb3 e0)
        have e1 := keep_cell hb4 (keep_cell hb3 e1)
        have ho4 := ho3.keep hb4
        have hbw4 : Below w.heap.size w W4 := below_tr (below_tr (below_tr hb hbW) hb3) hb4
        clear hb hbW hb1 hb2 hb3 hx4 hy4 hb4 hsz4
        go_wp2_with fail
        refine (K20.out _ _ _ W4 ho4).mono ?_
        rintro e w5 ⟨rfl, hb5⟩
        obtain ⟨W6, hW6, hb6, _, m0, m1, _, _⟩ := box2 w5 (.int .i64 gk) (.int .u64 (ga : Int)) 39
        have d0 := keep_cell hb6 (keep_cell hb5 d0)
        have d1 := keep_cell hb6 (keep_cell hb5 d1)
        have e0 := keep_cell hb6 (keep_cell hb5 e0)
        have e1 := keep_cell hb6 (keep_cell hb5 e1)
        have ho6 := (ho4.keep hb5).keep hb6
        have hbw6 := below_tr (below_tr hbw4 hb5) hb6
        clear hb5 hb6 hbw4
        go_wp2_with fail
        refine (K20h.out W6 hbw6).mono ?_
        rintro e w7 ⟨rfl, hb7⟩
        obtain ⟨W8, hW8, hb8, _, n0, n1, _, _⟩ := box2 w7 (.int .i64 pk) (.int .u64 (pa : Int)) 39
        have d0 := keep_cell hb8 (keep_cell hb7 d0)
        have d1 := keep_cell hb8 (keep_cell hb7 d1)
        have ho8 := (ho6.keep hb7).keep hb8
        have hbw8 := below_tr (below_tr hbw6 hb7) hb8
        clear hb7 hb8 hbw6
        go_wp2_with fail
        refine (K20c.out _ _ _ W8 ho8).mono ?_
        rintro e w9 ⟨rfl, hb9⟩
        obtain ⟨Wa, hWa, hba, _, o0, o1, _, _⟩ := box2 w9 (.int .i64 pk) (.int .u64 (pa : Int)) 39
        have d0 := keep_cell hba (keep_cell hb9 d0)
        have d1 := keep_cell hba (keep_cell hb9 d1)
        have n0 := keep_cell hba (keep_cell hb9 n0)
        have n1 := keep_cell hba (keep_cell hb9 n1)
        have hoa := (ho8.keep hb9).keep hba
        have hbwa := below_tr (below_tr hbw8 hb9) hba
        clear hb9 hba hbw8
        go_wp2_with fail
        refine (K10b.out _ _ _ Wa hoa).mono ?_
        rintro e wc ⟨rfl, hbc⟩
        go_wp2_with fail
        refine (K13.out wc).mono ?_
        rintro e wz ⟨rfl, hbz⟩
        go_wp2
        go_ret
        exact ⟨rfl, (by (repeat (first | with_reducible assumption | with_reducible exact Below.refl _ _ | with_reducible refine Below.drew ?_ | with_reducible refine below_alloc ?_ _ | (with_reducible refine below_set ?_ ?_ _; rotate_left; focus (first | (simp; done) | (simp; omega))) | with_reducible refine below_tr ?_ (by with_reducible assumption))))⟩
    · have hg0 : (gk == 0) = false := by simpa using hg
      clear hg
      by_cases hin : a ≤ b ∧ b < a + k
      · have hin' := decide_eq_true (HIN.out.2 hin)
        clear hin HIN HG HY
        go_enter Try.func5, Try.ntmps5
        go_wp2_with fail
        refine K8.mono ?_
        rintro e w1 ⟨rfl, hb1⟩
        have e0 := keep_cell hb1 c0
        have e1 := keep_cell hb1 c1
        clear K8
        go_wp2_with fail
        refine (K10.out w1 hb1).mono ?_
        rintro e w2 ⟨rfl, hb2⟩
        clear K10
        have e0 := keep_cell hb2 e0
        have e1 := keep_cell hb2 e1
        have hbW := below_tr hb1 hb2
        go_wp2_with fail
        refine (K22.out w2 hbW).mono ?_
        rintro e w3 ⟨vm3, vc3, rfl, ho3, hb3⟩
        obtain ⟨am3, nm3, pm3, ac3, nc3, pc3, rfl, rfl⟩ := ho3.shape
        obtain ⟨X4, hX4, hx4, hszx, d0, d1, _, _⟩ := box2 w3 (.slice am3 nm3 pm3) (.slice ac3 nc3 pc3) 25
        obtain ⟨Y4, hY4, hy4, hsz4, l0, l1, lf0, lf1⟩ := box2 X4 (.int .i64 0) (.int .u64 0) 39
        rw [hszx] at l0 l1 lf0 lf1
        have d0 := keep_cell hy4 d0
        have d1 := keep_cell hy4 d1
        obtain ⟨W4, hW4⟩ : ∃ W4, (Y4.setCell ⟨w3.heap.size + 1, 0, none⟩ (.int .i64 0)).setCell ⟨w3.heap.size + 1, 1, none⟩ (.int .u64 0) = W4 := ⟨_, rfl⟩
        obtain ⟨g0, g1⟩ := res2 Y4 (w3.heap.size + 1) (.int .i64 0) (.int .u64 0) ⟨⟨_, l0⟩, lf0⟩ ⟨⟨_, l1⟩, lf1⟩
        rw [hW4] at g0 g1
        have d0 : W4.cell? ⟨w3.heap.size, 0, none⟩ = some (.slice am3 nm3 pm3) := by rw [← hW4]; exact cell_far (cell_far d0 (by simp) _) (by simp) _
        have d1 : W4.cell? ⟨w3.heap.size, 1, none⟩ = some (.slice ac3 nc3 pc3) := by rw [← hW4]; exact cell_far (cell_far d1 (by simp) _) (by simp) _
        have hb4 : Below w3.heap.size w3 W4 := by rw [← hW4]; exact below_set (below_set (below_tr hx4 hy4) (by simp) _) (by simp) _
        have e0 := keep_cell hb4 (keep_cell hb3 e0)
        have e1 := keep_cell hb4 (keep_cell hb3 e1)
        have ho4 := ho3.keep hb4
        have hbw4 : Below w.heap.size w W4 := below_tr (below_tr (below_tr hb hbW) hb3) hb4
        clear hb hbW hb1 hb2 hb3 hx4 hy4 hb4 hsz4
        go_wp2_with fail
        refine (K20.out _ _ _ W4 ho4).mono ?_
        rintro e w5 ⟨rfl, hb5⟩
        obtain ⟨W6, hW6, hb6, _, m0, m1, _, _⟩ := box2 w5 (.int .i64 gk) (.int .u64 (ga : Int)) 39
        have d0 := keep_cell hb6 (keep_cell hb5 d0)
        have d1 := keep_cell hb6 (keep_cell hb5 d1)
        have e0 := keep_cell hb6 (keep_cell hb5 e0)
        have e1 := keep_cell hb6 (keep_cell hb5 e1)
        have ho6 := (ho4.keep hb5).keep hb6
        have hbw6 := below_tr (below_tr hbw4 hb5) hb6
        clear hb5 hb6 hbw4
        go_wp2_with fail
        refine (K20h.out W6 hbw6).mono ?_
        rintro e w7 ⟨rfl, hb7⟩
        obtain ⟨W8, hW8, hb8, _, n0, n1, _, _⟩ := box2 w7 (.int .i64 pk) (.int .u64 (pa : Int)) 39
        have d0 := keep_cell hb8 (keep_cell hb7 d0)
        have d1 := keep_cell hb8 (keep_cell hb7 d1)
        have ho8 := (ho6.keep hb7).keep hb8
        have hbw8 := below_tr (below_tr hbw6 hb7) hb8
        clear hb7 hb8 hbw6
        go_wp2_with fail
        refine (K20c.out _ _ _ W8 ho8).mono ?_
        rintro e w9 ⟨rfl, hb9⟩
        obtain ⟨Wa, hWa, hba, _, o0, o1, _, _⟩ := box2 w9 (.int .i64 pk) (.int .u64 (pa : Int)) 39
        have d0 := keep_cell hba (keep_cell hb9 d0)
        have d1 := keep_cell hba (keep_cell hb9 d1)
        have n0 := keep_cell hba (keep_cell hb9 n0)
        have n1 := keep_cell hba (keep_cell hb9 n1)
        have hoa := (ho8.keep hb9).keep hba
        have hbwa := below_tr (below_tr hbw8 hb9) hba
        clear hb9 hba hbw8
        go_wp2_with fail
        refine (K10b.out _ _ _ Wa hoa).mono ?_
        rintro e wc ⟨rfl, hbc⟩
        go_wp2_with fail
        refine (K13.out wc).mono ?_
        rintro e wz ⟨rfl, hbz⟩
        go_wp2
        go_ret
        exact ⟨rfl, (by (repeat (first | with_reducible assumption | with_reducible exact Below.refl _ _ | with_reducible refine Below.drew ?_ | with_reducible refine below_alloc ?_ _ | (with_reducible refine below_set ?_ ?_ _; rotate_left; focus (first | (simp; done) | (simp; omega))) | with_reducible refine below_tr ?_ (by with_reducible assumption))))⟩
      · have hin' := decide_eq_false (fun h => hin (HIN.out.1 h))
        obtain rfl := HY.out hin
        clear hin HIN HG HY
        go_enter Try.func5, Try.ntmps5
        go_wp2_with fail
        refine K8.mono ?_
        rintro e w1 ⟨rfl, hb1⟩
        have e0 := keep_cell hb1 c0
        have e1 := keep_cell hb1 c1
        clear K8
        go_wp2_with fail
        refine (K10.out w1 hb1).mono ?_
        rintro e w2 ⟨rfl, hb2⟩
        clear K10
        have e0 := keep_cell hb2 e0
        have e1 := keep_cell hb2 e1
        have hbW := below_tr hb1 hb2
        go_wp2_with fail
        refine (K22.out w2 hbW).mono ?_
        rintro e w3 ⟨vm3, vc3, rfl, ho3, hb3⟩
        obtain ⟨am3, nm3, pm3, ac3, nc3, pc3, rfl, rfl⟩ := ho3.shape
        obtain ⟨X4, hX4, hx4, hszx, d0, d1, _, _⟩ := box2 w3 (.slice am3 nm3 pm3) (.slice ac3 nc3 pc3) 25
        obtain ⟨Y4, hY4, hy4, hsz4, l0, l1, lf0, lf1⟩ := box2 X4 (.int .i64 0) (.int .u64 0) 39
        rw [hszx] at l0 l1 lf0 lf1
        have d0 := keep_cell hy4 d0
        have d1 := keep_cell hy4 d1
        obtain ⟨W4, hW4⟩ : ∃ W4, (Y4.setCell ⟨w3.heap.size + 1, 0, none⟩ (.int .i64 0)).setCell ⟨w3.heap.size + 1, 1, none⟩ (.int .u64 0) = W4 := ⟨_, rfl⟩
        obtain ⟨g0, g1⟩ := res2 Y4 (w3.heap.size + 1) (.int .i64 0) (.int .u64 0) ⟨⟨_, l0⟩, lf0⟩ ⟨⟨_, l1⟩, lf1⟩
        rw [hW4] at g0 g1
        have d0 : W4.cell? ⟨w3.heap.size, 0, none⟩ = some (.slice am3 nm3 pm3) := by rw [← hW4]; exact cell_far (cell_far d0 (by simp) _) (by simp) _
        have d1 : W4.cell? ⟨w3.heap.size, 1, none⟩ = some (.slice ac3 nc3 pc3) := by rw [← hW4]; exact cell_far (cell_far d1 (by simp) _) (by simp) _
        have hb4 : Below w3.heap.size w3 W4 := by rw [← hW4]; exact below_set (below_set (below_tr hx4 hy4) (by simp) _) (by simp) _
        have e0 := keep_cell hb4 (keep_cell hb3 e0)
        have e1 := keep_cell hb4 (keep_cell hb3 e1)
        have ho4 := ho3.keep hb4
        have hbw4 : Below w.heap.size w W4 := below_tr (below_tr (below_tr hb hbW) hb3) hb4
        clear hb hbW hb1 hb2 hb3 hx4 hy4 hb4 hsz4
        go_wp2_with fail
        refine (K20.out _ _ _ W4 ho4).mono ?_
        rintro e w5 ⟨rfl, hb5⟩
        obtain ⟨W6, hW6, hb6, _, m0, m1, _, _⟩ := box2 w5 (.int .i64 gk) (.int .u64 (ga : Int)) 39
        have d0 := keep_cell hb6 (keep_cell hb5 d0)
        have d1 := keep_cell hb6 (keep_cell hb5 d1)
        have e0 := keep_cell hb6 (keep_cell hb5 e0)
        have e1 := keep_cell hb6 (keep_cell hb5 e1)
        have ho6 := (ho4.keep hb5).keep hb6
        have hbw6 := below_tr (below_tr hbw4 hb5) hb6
        clear hb5 hb6 hbw4
        go_wp2_with fail
        refine (K20h.out W6 hbw6).mono ?_
        rintro e w7 ⟨rfl, hb7⟩
        obtain ⟨W8, hW8, hb8, _, n0, n1, _, _⟩ := box2 w7 (.int .i64 pk) (.int .u64 (pa : Int)) 39
        have d0 := keep_cell hb8 (keep_cell hb7 d0)
        have d1 := keep_cell hb8 (keep_cell hb7 d1)
        have ho8 := (ho6.keep hb7).keep hb8
        have hbw8 := below_tr (below_tr hbw6 hb7) hb8
        clear hb7 hb8 hbw6
        go_wp2_with fail
        refine (K20c.out _ _ _ W8 ho8).mono ?_
        rintro e w9 ⟨rfl, hb9⟩
        obtain ⟨Wa, hWa, hba, _, o0, o1, _, _⟩ := box2 w9 (.int .i64 pk) (.int .u64 (pa : Int)) 39
        have d0 := keep_cell hba (keep_cell hb9 d0)
        have d1 := keep_cell hba (keep_cell hb9 d1)
        have n0 := keep_cell hba (keep_cell hb9 n0)
        have n1 := keep_cell hba (keep_cell hb9 n1)
        have hoa := (ho8.keep hb9).keep hba
        have hbwa := below_tr (below_tr hbw8 hb9) hba
        clear hb9 hba hbw8
        go_wp2_with fail
        refine (K10b.out _ _ _ Wa hoa).mono ?_
        rintro e wc ⟨rfl, hbc⟩
        go_wp2_with fail
        refine (K13.out wc).mono ?_
        rintro e wz ⟨rfl, hbz⟩
        go_wp2
        go_ret
        exact ⟨rfl, (by (repeat (first | with_reducible assumption | with_reducible exact Below.refl _ _ | with_reducible refine Below.drew ?_ | with_reducible refine below_alloc ?_ _ | (with_reducible refine below_set ?_ ?_ _; rotate_left; focus (first | (simp; done) | (simp; omega))) | with_reducible refine below_tr ?_ (by with_reducible assumption))))⟩
  · obtain rfl := x8 hk8
    clear xm x8
    by_cases hg : gk = 0
    · obtain rfl := HG.out hg
      have hg0 : (gk == 0) = true := by simpa using hg
      clear hg
      by_cases hin : a ≤ b ∧ b < a + k
      · have hin' := decide_eq_true (HIN.out.2 hin)
        clear hin HIN HG HY
        go_enter Try.func5, Try.ntmps5
        go_wp2_with fail
        refine K8.mono ?_
        rintro e w1 ⟨rfl, hb1⟩
        have e0 := keep_cell hb1 c0
        have e1 := keep_cell hb1 c1
        clear K8
        go_wp2_with fail
        refine (K10.out w1 hb1).mono ?_
        rintro e w2 ⟨rfl, hb2⟩
        clear K10
        have e0 := keep_cell hb2 e0
        have e1 := keep_cell hb2 e1
        have hbW := below_tr hb1 hb2
        go_wp2_with fail
        refine (K22.out w2 hbW).mono ?_
        rintro e w3 ⟨vm3, vc3, rfl, ho3, hb3⟩
        obtain ⟨am3, nm3, pm3, ac3, nc3, pc3, rfl, rfl⟩ := ho3.shape
        obtain ⟨X4, hX4, hx4, hszx, d0, d1, _, _⟩ := box2 w3 (.slice am3 nm3 pm3) (.slice ac3 nc3 pc3) 25
        obtain ⟨Y4, hY4, hy4, hsz4, l0, l1, lf0, lf1⟩ := box2 X4 (.int .i64 0) (.int .u64 0) 39
        rw [hszx] at l0 l1 lf0 lf1
        have d0 := keep_cell hy4 d0
        have d1 := keep_cell hy4 d1
        obtain ⟨W4, hW4⟩ : ∃ W4, (Y4.setCell ⟨w3.heap.size + 1, 0, none⟩ (.int .i64 0)).setCell ⟨w3.heap.size + 1, 1, none⟩ (.int .u64 0) = W4 := ⟨_, rfl⟩
        obtain ⟨g0, g1⟩ := res2 Y4 (w3.heap.size + 1) (.int .i64 0) (.int .u64 0) ⟨⟨_, l0⟩, lf0⟩ ⟨⟨_, l1⟩, lf1⟩
        rw [hW4] at g0 g1
        have d0 : W4.cell? ⟨w3.heap.size, 0, none⟩ = some (.slice am3 nm3 pm3) := by rw [← hW4]; exact cell_far (cell_far d0 (by simp) _) (by simp) _
        have d1 : W4.cell? ⟨w3.heap.size, 1, none⟩ = some (.slice ac3 nc3 pc3) := by rw [← hW4]; exact cell_far (cell_far d1 (by simp) _) (by simp) _
        have hb4 : Below w3.heap.size w3 W4 := by rw [← hW4]; exact below_set (below_set (below_tr hx4 hy4) (by simp) _) (by simp) _
        have e0 := keep_cell hb4 (keep_cell hb3 e0)
        have e1 := keep_cell hb4 (keep_cell hb3 e1)
        have ho4 := ho3.keep hb4
        have hbw4 : Below w.heap.size w W4 := below_tr (below_tr (below_tr hb hbW) hb3) hb4
        clear hb hbW hb1 hb2 hb3 hx4 hy4 hb4 hsz4
        go_wp2_with fail
        refine (K20.out _ _ _ W4 ho4).mono ?_
        rintro e w5 ⟨rfl, hb5⟩
        obtain ⟨W6, hW6, hb6, _, m0, m1, _, _⟩ := box2 w5 (.int .i64 gk) (.int .u64 (ga : Int)) 39
        have d0 := keep_cell hb6 (keep_cell hb5 d0)
        have d1 := keep_cell hb6 (keep_cell hb5 d1)
        have e0 := keep_cell hb6 (keep_cell hb5 e0)
        have e1 := keep_cell hb6 (keep_cell hb5 e1)
        have ho6 := (ho4.keep hb5).keep hb6
        have hbw6 := below_tr (below_tr hbw4 hb5) hb6
        clear hb5 hb6 hbw4
        go_wp2_with fail
        refine (K20h.out W6 hbw6).mono ?_
        rintro e w7 ⟨rfl, hb7⟩
        obtain ⟨W8, hW8, hb8, _, n0, n1, _, _⟩ := box2 w7 (.int .i64 pk) (.int .u64 (pa : Int)) 39
        have d0 := keep_cell hb8 (keep_cell hb7 d0)
        have d1 := keep_cell hb8 (keep_cell hb7 d1)
        have ho8 := (ho6.keep hb7).keep hb8
        have hbw8 := below_tr (below_tr hbw6 hb7) hb8
        clear hb7 hb8 hbw6
        go_wp2_with fail
        refine (K20c.out _ _ _ W8 ho8).mono ?_
        rintro e w9 ⟨rfl, hb9⟩
        obtain ⟨Wa, hWa, hba, _, o0, o1, _, _⟩ := box2 w9 (.int .i64 pk) (.int .u64 (pa : Int)) 39
        have d0 := keep_cell hba (keep_cell hb9 d0)
        have d1 := keep_cell hba (keep_cell hb9 d1)
        have n0 := keep_cell hba (keep_cell hb9 n0)
        have n1 := keep_cell hba (keep_cell hb9 n1)
        have hoa := (ho8.keep hb9).keep hba
        have hbwa := below_tr (below_tr hbw8 hb9) hba
        clear hb9 hba hbw8
        go_wp2_with fail
        refine (K10b.out _ _ _ Wa hoa).mono ?_
        rintro e wc ⟨rfl, hbc⟩
        go_wp2_with fail
        refine (K13.out wc).mono ?_
        rintro e wz ⟨rfl, hbz⟩
        go_wp2
        go_ret
        exact ⟨rfl, (by (repeat (first | with_reducible assumption | with_reducible exact Below.refl _ _ | with_reducible refine Below.drew ?_ | with_reducible refine below_alloc ?_ _ | (with_reducible refine below_set ?_ ?_ _; rotate_left; focus (first | (simp; done) | (simp; omega))) | with_reducible refine below_tr ?_ (by with_reducible assumption))))⟩
      · have hin' := decide_eq_false (fun h => hin (HIN.out.1 h))
        obtain rfl := HY.out hin
        clear hin HIN HG HY
        go_enter Try.func5, Try.ntmps5
        go_wp2_with fail
        refine K8.mono ?_
        rintro e w1 ⟨rfl, hb1⟩
        have e0 := keep_cell hb1 c0
        have e1 := keep_cell hb1 c1
        clear K8
        go_wp2_with fail
        refine (K10.out w1 hb1).mono ?_
        rintro e w2 ⟨rfl, hb2⟩
        clear K10
        have e0 := keep_cell hb2 e0
        have e1 := keep_cell hb2 e1
        have hbW := below_tr hb1 hb2
        go_wp2_with fail
        refine (K22.out w2 hbW).mono ?_
        rintro e w3 ⟨vm3, vc3, rfl, ho3, hb3⟩
        obtain ⟨am3, nm3, pm3, ac3, nc3, pc3, rfl, rfl⟩ := ho3.shape
        obtain ⟨X4, hX4, hx4, hszx, d0, d1, _, _⟩ := box2 w3 (.slice am3 nm3 pm3) (.slice ac3 nc3 pc3) 25
        obtain ⟨Y4, hY4, hy4, hsz4, l0, l1, lf0, lf1⟩ := box2 X4 (.int .i64 0) (.int .u64 0) 39
        rw [hszx] at l0 l1 lf0 lf1
        have d0 := keep_cell hy4 d0
        have d1 := keep_cell hy4 d1
        obtain ⟨W4, hW4⟩ : ∃ W4, (Y4.setCell ⟨w3.heap.size + 1, 0, none⟩ (.int .i64 0)).setCell ⟨w3.heap.size + 1, 1, none⟩ (.int .u64 0) = W4 := ⟨_, rfl⟩
        obtain ⟨g0, g1⟩ := res2 Y4 (w3.heap.size + 1) (.int .i64 0) (.int .u64 0) ⟨⟨_, l0⟩, lf0⟩ ⟨⟨_, l1⟩, lf1⟩
        rw [hW4] at g0 g1
        have d0 : W4.cell? ⟨w3.heap.size, 0, none⟩ = some (.slice am3 nm3 pm3) := by rw [← hW4]; exact cell_far (cell_far d0 (by simp) _) (by simp) _
        have d1 : W4.cell? ⟨w3.heap.size, 1, none⟩ = some (.slice ac3 nc3 pc3) := by rw [← hW4]; exact cell_far (cell_far d1 (by simp) _) (by simp) _
        have hb4 : Below w3.heap.size w3 W4 := by rw [← hW4]; exact below_set (below_set (below_tr hx4 hy4) (by simp) _) (by simp) _
        have e0 := keep_cell hb4 (keep_cell hb3 e0)
        have e1 := keep_cell hb4 (keep_cell hb3 e1)
        have ho4 := ho3.keep hb4
        have hbw4 : Below w.heap.size w W4 := below_tr (below_tr (below_tr hb hbW) hb3) hb4
        clear hb hbW hb1 hb2 hb3 hx4 hy4 hb4 hsz4
        go_wp2_with fail
        refine (K20.out _ _ _ W4 ho4).mono ?_
        rintro e w5 ⟨rfl, hb5⟩
        obtain ⟨W6, hW6, hb6, _, m0, m1, _, _⟩ := box2 w5 (.int .i64 gk) (.int .u64 (ga : Int)) 39
        have d0 := keep_cell hb6 (keep_cell hb5 d0)
        have d1 := keep_cell hb6 (keep_cell hb5 d1)
        have e0 := keep_cell hb6 (keep_cell hb5 e0)
        have e1 := keep_cell hb6 (keep_cell hb5 e1)
        have ho6 := (ho4.keep hb5).keep hb6
        have hbw6 := below_tr (below_tr hbw4 hb5) hb6
        clear hb5 hb6 hbw4
        go_wp2_with fail
        refine (K20h.out W6 hbw6).mono ?_
        rintro e w7 ⟨rfl, hb7⟩
        obtain ⟨W8, hW8, hb8, _, n0, n1, _, _⟩ := box2 w7 (.int .i64 pk) (.int .u64 (pa : Int)) 39
        have d0 := keep_cell hb8 (keep_cell hb7 d0)
        have d1 := keep_cell hb8 (keep_cell hb7 d1)
        have ho8 := (ho6.keep hb7).keep hb8
        have hbw8 := below_tr (below_tr hbw6 hb7) hb8
        clear hb7 hb8 hbw6
        go_wp2_with fail
        refine (K20c.out _ _ _ W8 ho8).mono ?_
        rintro e w9 ⟨rfl, hb9⟩
        obtain ⟨Wa, hWa, hba, _, o0, o1, _, _⟩ := box2 w9 (.int .i64 pk) (.int .u64 (pa : Int)) 39
        have d0 := keep_cell hba (keep_cell hb9 d0)
        have d1 := keep_cell hba (keep_cell hb9 d1)
        have n0 := keep_cell hba (keep_cell hb9 n0)
        have n1 := keep_cell hba (keep_cell hb9 n1)
        have hoa := (ho8.keep hb9).keep hba
        have hbwa := below_tr (below_tr hbw8 hb9) hba
        clear hb9 hba hbw8
        go_wp2_with fail
        refine (K10b.out _ _ _ Wa hoa).mono ?_
        rintro e wc ⟨rfl, hbc⟩
        go_wp2_with fail
        refine (K13.out wc).mono ?_
        rintro e wz ⟨rfl, hbz⟩
        go_wp2
        go_ret
        exact ⟨rfl, (by (repeat (first | with_reducible assumption | with_reducible exact Below.refl _ _ | with_reducible refine Below.drew ?_ | with_reducible refine below_alloc ?_ _ | (with_reducible refine below_set ?_ ?_ _; rotate_left; focus (first | (simp; done) | (simp; omega))) | with_reducible refine below_tr ?_ (by with_reducible assumption))))⟩
    · have hg0 : (gk == 0) = false := by simpa using hg
      clear hg
      by_cases hin : a ≤ b ∧ b < a + k
      · have hin' := decide_eq_true (HIN.out.2 hin)
        clear hin HIN HG HY
        go_enter Try.func5, Try.ntmps5
        go_wp2_with fail
        refine K8.mono ?_
        rintro e w1 ⟨rfl, hb1⟩
        have e0 := keep_cell hb1 c0
        have e1 := keep_cell hb1 c1
        clear K8
        go_wp2_with fail
        refine (K10.out w1 hb1).mono ?_
        rintro e w2 ⟨rfl, hb2⟩
        clear K10
        have e0 := keep_cell hb2 e0
        have e1 := keep_cell hb2 e1
        have hbW := below_tr hb1 hb2
        go_wp2_with fail
        refine (K22.out w2 hbW).mono ?_
        rintro e w3 ⟨vm3, vc3, rfl, ho3, hb3⟩
        obtain ⟨am3, nm3, pm3, ac3, nc3, pc3, rfl, rfl⟩ := ho3.shape
        obtain ⟨X4, hX4, hx4, hszx, d0, d1, _, _⟩ := box2 w3 (.slice am3 nm3 pm3) (.slice ac3 nc3 pc3) 25
        obtain ⟨Y4, hY4, hy4, hsz4, l0, l1, lf0, lf1⟩ := box2 X4 (.int .i64 0) (.int .u64 0) 39
        rw [hszx] at l0 l1 lf0 lf1
        have d0 := keep_cell hy4 d0
        have d1 := keep_cell hy4 d1
        obtain ⟨W4, hW4⟩ : ∃ W4, (Y4.setCell ⟨w3.heap.size + 1, 0, none⟩ (.int .i64 0)).setCell ⟨w3.heap.size + 1, 1, none⟩ (.int .u64 0) = W4 := ⟨_, rfl⟩
        obtain ⟨g0, g1⟩ := res2 Y4 (w3.heap.size + 1) (.int .i64 0) (.int .u64 0) ⟨⟨_, l0⟩, lf0⟩ ⟨⟨_, l1⟩, lf1⟩
        rw [hW4] at g0 g1
        have d0 : W4.cell? ⟨w3.heap.size, 0, none⟩ = some (.slice am3 nm3 pm3) := by rw [← hW4]; exact cell_far (cell_far d0 (by simp) _) (by simp) _
        have d1 : W4.cell? ⟨w3.heap.size, 1, none⟩ = some (.slice ac3 nc3 pc3) := by rw [← hW4]; exact cell_far (cell_far d1 (by simp) _) (by simp) _
        have hb4 : Below w3.heap.size w3 W4 := by rw [← hW4]; exact below_set (below_set (below_tr hx4 hy4) (by simp) _) (by simp) _
        have e0 := keep_cell hb4 (keep_cell hb3 e0)
        have e1 := keep_cell hb4 (keep_cell hb3 e1)
        have ho4 := ho3.keep hb4
        have hbw4 : Below w.heap.size w W4 := below_tr (below_tr (below_tr hb hbW) hb3) hb4
        clear hb hbW hb1 hb2 hb3 hx4 hy4 hb4 hsz4
        go_wp2_with fail
        refine (K20.out _ _ _ W4 ho4).mono ?_
        rintro e w5 ⟨rfl, hb5⟩
        obtain ⟨W6, hW6, hb6, _, m0, m1, _, _⟩ := box2 w5 (.int .i64 gk) (.int .u64 (ga : Int)) 39
        have d0 := keep_cell hb6 (keep_cell hb5 d0)
        have d1 := keep_cell hb6 (keep_cell hb5 d1)
        have e0 := keep_cell hb6 (keep_cell hb5 e0)
        have e1 := keep_cell hb6 (keep_cell hb5 e1)
        have ho6 := (ho4.keep hb5).keep hb6
        have hbw6 := below_tr (below_tr hbw4 hb5) hb6
        clear hb5 hb6 hbw4
        go_wp2_with fail
        refine (K20h.out W6 hbw6).mono ?_
        rintro e w7 ⟨rfl, hb7⟩
        obtain ⟨W8, hW8, hb8, _, n0, n1, _, _⟩ := box2 w7 (.int .i64 pk) (.int .u64 (pa : Int)) 39
        have d0 := keep_cell hb8 (keep_cell hb7 d0)
        have d1 := keep_cell hb8 (keep_cell hb7 d1)
        have ho8 := (ho6.keep hb7).keep hb8
        have hbw8 := below_tr (below_tr hbw6 hb7) hb8
        clear hb7 hb8 hbw6
        go_wp2_with fail
        refine (K20c.out _ _ _ W8 ho8).mono ?_
        rintro e w9 ⟨rfl, hb9⟩
        obtain ⟨Wa, hWa, hba, _, o0, o1, _, _⟩ := box2 w9 (.int .i64 pk) (.int .u64 (pa : Int)) 39
        have d0 := keep_cell hba (keep_cell hb9 d0)
        have d1 := keep_cell hba (keep_cell hb9 d1)
        have n0 := keep_cell hba (keep_cell hb9 n0)
        have n1 := keep_cell hba (keep_cell hb9 n1)
        have hoa := (ho8.keep hb9).keep hba
        have hbwa := below_tr (below_tr hbw8 hb9) hba
        clear hb9 hba hbw8
        go_wp2_with fail
        refine (K10b.out _ _ _ Wa hoa).mono ?_
        rintro e wc ⟨rfl, hbc⟩
        go_wp2_with fail
        refine (K13.out wc).mono ?_
        rintro e wz ⟨rfl, hbz⟩
        go_wp2
        go_ret
        exact ⟨rfl, (by (repeat (first | with_reducible assumption | with_reducible exact Below.refl _ _ | with_reducible refine Below.drew ?_ | with_reducible refine below_alloc ?_ _ | (with_reducible refine below_set ?_ ?_ _; rotate_left; focus (first | (simp; done) | (simp; omega))) | with_reducible refine below_tr ?_ (by with_reducible assumption))))⟩
      · have hin' := decide_eq_false (fun h => hin (HIN.out.1 h))
        obtain rfl := HY.out hin
        clear hin HIN HG HY
        go_enter Try.func5, Try.ntmps5
        go_wp2_with fail
        refine K8.mono ?_
        rintro e w1 ⟨rfl, hb1⟩
        have e0 := keep_cell hb1 c0
        have e1 := keep_cell hb1 c1
        clear K8
        go_wp2_with fail
        refine (K10.out w1 hb1).mono ?_
        rintro e w2 ⟨rfl, hb2⟩
        clear K10
        have e0 := keep_cell hb2 e0
        have e1 := keep_cell hb2 e1
        have hbW := below_tr hb1 hb2
        go_wp2_with fail
        refine (K22.out w2 hbW).mono ?_
        rintro e w3 ⟨vm3, vc3, rfl, ho3, hb3⟩
        obtain ⟨am3, nm3, pm3, ac3, nc3, pc3, rfl, rfl⟩ := ho3.shape
        obtain ⟨X4, hX4, hx4, hszx, d0, d1, _, _⟩ := box2 w3 (.slice am3 nm3 pm3) (.slice ac3 nc3 pc3) 25
        obtain ⟨Y4, hY4, hy4, hsz4, l0, l1, lf0, lf1⟩ := box2 X4 (.int .i64 0) (.int .u64 0) 39
        rw [hszx] at l0 l1 lf0 lf1
        have d0 := keep_cell hy4 d0
        have d1 := keep_cell hy4 d1
        obtain ⟨W4, hW4⟩ : ∃ W4, (Y4.setCell ⟨w3.heap.size + 1, 0, none⟩ (.int .i64 0)).setCell ⟨w3.heap.size + 1, 1, none⟩ (.int .u64 0) = W4 := ⟨_, rfl⟩
        obtain ⟨g0, g1⟩ := res2 Y4 (w3.heap.size + 1) (.int .i64 0) (.int .u64 0) ⟨⟨_, l0⟩, lf0⟩ ⟨⟨_, l1⟩, lf1⟩
        rw [hW4] at g0 g1
        have d0 : W4.cell? ⟨w3.heap.size, 0, none⟩ = some (.slice am3 nm3 pm3) := by rw [← hW4]; exact cell_far (cell_far d0 (by simp) _) (by simp) _
        have d1 : W4.cell? ⟨w3.heap.size, 1, none⟩ = some (.slice ac3 nc3 pc3) := by rw [← hW4]; exact cell_far (cell_far d1 (by simp) _) (by simp) _
        have hb4 : Below w3.heap.size w3 W4 := by rw [← hW4]; exact below_set (below_set (below_tr hx4 hy4) (by simp) _) (by simp) _
        have e0 := keep_cell hb4 (keep_cell hb3 e0)
        have e1 := keep_cell hb4 (keep_cell hb3 e1)
        have ho4 := ho3.keep hb4
        have hbw4 : Below w.heap.size w W4 := below_tr (below_tr (below_tr hb hbW) hb3) hb4
        clear hb hbW hb1 hb2 hb3 hx4 hy4 hb4 hsz4
        go_wp2_with fail
        refine (K20.out _ _ _ W4 ho4).mono ?_
        rintro e w5 ⟨rfl, hb5⟩
        obtain ⟨W6, hW6, hb6, _, m0, m1, _, _⟩ := box2 w5 (.int .i64 gk) (.int .u64 (ga : Int)) 39
        have d0 := keep_cell hb6 (keep_cell hb5 d0)
        have d1 := keep_cell hb6 (keep_cell hb5 d1)
        have e0 := keep_cell hb6 (keep_cell hb5 e0)
        have e1 := keep_cell hb6 (keep_cell hb5 e1)
        have ho6 := (ho4.keep hb5).keep hb6
        have hbw6 := below_tr (below_tr hbw4 hb5) hb6
        clear hb5 hb6 hbw4
        go_wp2_with fail
        refine (K20h.out W6 hbw6).mono ?_
        rintro e w7 ⟨rfl, hb7⟩
        obtain ⟨W8, hW8, hb8, _, n0, n1, _, _⟩ := box2 w7 (.int .i64 pk) (.int .u64 (pa : Int)) 39
        have d0 := keep_cell hb8 (keep_cell hb7 d0)
        have d1 := keep_cell hb8 (keep_cell hb7 d1)
        have ho8 := (ho6.keep hb7).keep hb8
        have hbw8 := below_tr (below_tr hbw6 hb7) hb8
        clear hb7 hb8 hbw6
        go_wp2_with fail
        refine (K20c.out _ _ _ W8 ho8).mono ?_
        rintro e w9 ⟨rfl, hb9⟩
        obtain ⟨Wa, hWa, hba, _, o0, o1, _, _⟩ := box2 w9 (.int .i64 pk) (.int .u64 (pa : Int)) 39
        have d0 := keep_cell hba (keep_cell hb9 d0)
        have d1 := keep_cell hba (keep_cell hb9 d1)
        have n0 := keep_cell hba (keep_cell hb9 n0)
        have n1 := keep_cell hba (keep_cell hb9 n1)
        have hoa := (ho8.keep hb9).keep hba
        have hbwa := below_tr (below_tr hbw8 hb9) hba
        clear hb9 hba hbw8
        go_wp2_with fail
        refine (K10b.out _ _ _ Wa hoa).mono ?_
        rintro e wc ⟨rfl, hbc⟩
        go_wp2_with fail
        refine (K13.out wc).mono ?_
        rintro e wz ⟨rfl, hbz⟩
        go_wp2
        go_ret
        exact ⟨rfl, (by (repeat (first | with_reducible assumption | with_reducible exact Below.refl _ _ | with_reducible refine Below.drew ?_ | with_reducible refine below_alloc ?_ _ | (with_reducible refine below_set ?_ ?_ _; rotate_left; focus (first | (simp; done) | (simp; omega))) | with_reducible refine below_tr ?_ (by with_reducible assumption))))⟩
end Go.Proofs.Ytolmcbnammhjjaa
