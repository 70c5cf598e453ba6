/- What is proved here: the law HostBytes, walked. -/
import Derived.Test.YtolmcbnammhjjaaRclear
import Derived.Test.YtolmcbnammhjjaaAwake
import Derived.Test.YtolmcbnammhjjaaFresh
import Derived.Test.YtolmcbnammhjjaaBlk
import Derived.Deep.CutRange
import Derived.Deep.DeepCutAuto
namespace Go.Proofs.Ytolmcbnammhjjaa
open Go.RowKit
set_option linter.unusedVariables false
set_option maxHeartbeats 4000000 in
set_option maxRecDepth 100000 in
theorem bytes_walk (vm vc : Value) (ms cs : List (Nat × Int)) (a v n : Nat) (k : Int) (w : World) (hm : Sl .i64 w vm ms) (hc : Sl .u64 w vc cs) (hrc : ∀ y ∈ cs, y.1 < 18446744073709551616) (hw : Words cs)
    (ha : a < 18446744073709551616) (hv : v < 18446744073709551616) (hn : n < 18446744073709551616) :
    Calls Try.prog 4 #[.agg #[vm, vc], .int .u64 (a : Int), .int .i64 k, .int .u64 (v : Int), .int .u64 (n : Int)] w fun e w' => e = .returned (.bool true) ∧ Below w.heap.size w w' := by
  obtain ⟨W, hW, hb, hsz, c0, c1, _, _⟩ := box2 w vm vc 25
  obtain ⟨am, pm, rfl, lpm1, lpm2⟩ : ∃ a p, vm = .slice a ms.length p ∧ ms.length ≤ p ∧ p ≤ 9223372036854775807 := by obtain ⟨a, p, h, h1, h2, _⟩ := id hm; exact ⟨_, _, h, h1, h2⟩
  obtain ⟨ac, pc, rfl, lpc1, lpc2⟩ : ∃ a p, vc = .slice a cs.length p ∧ cs.length ≤ p ∧ p ≤ 9223372036854775807 := by obtain ⟨a, p, h, h1, h2, _⟩ := id hc; exact ⟨_, _, h, h1, h2⟩
  have K8 := few8 am ac ms.length pm cs.length pc W (by omega) (by omega)
  have K13 : Hid (∀ w', Calls Try.prog 13 #[] w' fun e w'' => e = .returned (.bool true) ∧ Below w'.heap.size w' w'') := awake13
  have hrc' : ∀ i, (cs.getD i (0, 0)).1 < 18446744073709551616 := fun i => by
    by_cases hi : i < cs.length
    · rw [getD_at hi]; exact hrc _ (List.getElem_mem hi)
    · rw [List.getD_eq_getElem?_getD, List.getElem?_eq_none (by omega)]; decide
  have K10 : Hid (∀ w', Below W.heap.size W w' → Calls Try.prog 10 #[.agg #[.slice am ms.length pm, .slice ac cs.length pc]] w' fun e w'' => e = .returned (.bool (fitB ms cs)) ∧ Below w'.heap.size w' w'') := fun w' hb' =>
    rfit10 _ _ ms cs w' (hm.keep (below_tr hb hb')) (hc.keep (below_tr hb hb')) hrc'
  clear lpm1 lpm2 lpc1 lpc2
  by_cases hfew : ms.length ≤ 70 ∧ cs.length ≤ 200
  case neg =>
    rw [decide_eq_false hfew] at K8
    have HM : Hid (Sl .i64 w (.slice am ms.length pm) ms ∧ Sl .u64 w (.slice ac cs.length pc) cs) := ⟨hm, hc⟩
    clear hfew hm hc
    go_enter Try.func4, Try.ntmps4
    go_wp2_with fail
    refine K8.mono ?_
    rintro e w1 ⟨rfl, hb1⟩
    go_wp2_with fail
    refine (K13.out w1).mono ?_
    rintro e wz ⟨rfl, hbz⟩
    go_wp2
    go_ret
    exact ⟨rfl, (by (repeat (first | with_reducible assumption | with_reducible exact Below.refl _ _ | with_reducible refine Below.drew ?_ | with_reducible refine below_alloc ?_ _ | (with_reducible refine below_set ?_ ?_ _; rotate_left; focus (first | (simp; done) | (simp; omega))) | with_reducible refine below_tr ?_ (by with_reducible assumption))))⟩
  rw [decide_eq_true hfew] at K8
  cases hfit : fitB ms cs with
  | false =>
    rw [hfit] at K10
    clear hfew hm hc hfit
    go_enter Try.func4, Try.ntmps4
    go_wp2_with fail
    refine K8.mono ?_
    rintro e w1 ⟨rfl, hb1⟩
    have e0 := keep_cell hb1 c0
    have e1 := keep_cell hb1 c1
    clear K8
    go_wp2_with fail
    refine (K10.out w1 hb1).mono ?_
    rintro e w2 ⟨rfl, hb2⟩
    go_wp2_with fail
    refine (K13.out w2).mono ?_
    rintro e wz ⟨rfl, hbz⟩
    go_wp2
    go_ret
    exact ⟨rfl, (by (repeat (first | with_reducible assumption | with_reducible exact Below.refl _ _ | with_reducible refine Below.drew ?_ | with_reducible refine below_alloc ?_ _ | (with_reducible refine below_set ?_ ?_ _; rotate_left; focus (first | (simp; done) | (simp; omega))) | with_reducible refine below_tr ?_ (by with_reducible assumption))))⟩
  | true =>
  rw [hfit] at K10
  have HQ := q_fitB hfit
  clear hfit
  have lms : ms.length ≤ 1073741824 := by omega
  have lcs : cs.length ≤ 1073741822 := by omega
  have hrc7 : ∀ y ∈ cs, y.1 + 7 < 18446744073709551616 := fun y hy => by have := hrc y hy; have := (HQ.2.2.2.2.2 y hy).1; omega
  obtain ⟨lv, gk, ga, sk, sa, st, qs, rcs, K20, K21, K22, K23⟩ : ∃ (lv : Nat) (gk : Int) (ga : Nat) (sk : Int) (sa : Nat) (st : List (Nat × Int)), FitQ ms st ∧ (∀ y ∈ st, y.1 < 18446744073709551616) ∧
      (∀ w', Below w.heap.size w w' → Calls Try.prog 20 #[.agg #[.slice am ms.length pm, .slice ac cs.length pc], .int .u64 (a : Int), .int .i64 k] w' fun e w'' => e = .returned (.tuple #[.int .u64 ((lv : Nat) : Int), .agg #[.int .i64 gk, .int .u64 (ga : Int)]]) ∧ Below w'.heap.size w' w'') ∧ (∀ w', Below w.heap.size w w' → Calls Try.prog 21 #[.agg #[.slice am ms.length pm, .slice ac cs.length pc], .int .u64 (a : Int), .int .i64 k] w' fun e w'' => e = .returned (.tuple #[.int .u64 ((lv : Nat) : Int), .agg #[.int .i64 gk, .int .u64 (ga : Int)]]) ∧ Below w'.heap.size w' w'') ∧
      (∀ w', Below w.heap.size w w' → Calls Try.prog 22 #[.agg #[.slice am ms.length pm, .slice ac cs.length pc], .int .u64 (a : Int), .int .i64 k, .int .u64 (v : Int)] w' fun e w'' => ∃ vm' vc', e = .returned (.tuple #[.agg #[vm', vc'], .agg #[.int .i64 sk, .int .u64 (sa : Int)]]) ∧ OwnH w'.heap.size w'' vm' vc' ms st ∧ Below w'.heap.size w' w'') ∧ (∀ w', Below w.heap.size w w' → Calls Try.prog 23 #[.agg #[.slice am ms.length pm, .slice ac cs.length pc], .int .u64 (a : Int), .int .i64 k, .int .u64 (v : Int)] w' fun e w'' => ∃ vc', e = .returned (.tuple #[.agg #[.slice am ms.length pm, vc'], .agg #[.int .i64 sk, .int .u64 (sa : Int)]]) ∧ Sl .u64 w'' vc' st ∧ Below w'.heap.size w' w'') := by
    by_cases hk : 1 ≤ k ∧ k ≤ 8
    · obtain ⟨j, rfl⟩ : ∃ j : Nat, k = (j : Int) := ⟨k.toNat, by omega⟩
      have j1 : 1 ≤ j := by omega
      have j8 : j ≤ 8 := by omega
      have hst : FitQ ms (storeV ms cs a j v) ∧ ∀ y ∈ storeV ms cs a j v, y.1 < 18446744073709551616 := by
        unfold storeV
        split
        · rename_i hf
          obtain ⟨q1, _, q3⟩ := fit_store HQ hw hrc (by omega) a j v j1 hf
          exact ⟨q1, q3⟩
        · exact ⟨HQ, hrc⟩
      exact ⟨loadV ms cs a j, (faultFrom ms a 1 0 j).1, (faultFrom ms a 1 0 j).2, (faultFrom ms a 2 0 j).1, (faultFrom ms a 2 0 j).2, storeV ms cs a j v, hst.1, hst.2,
        fun w' hb' => load20_any _ _ ms cs a j w' (hm.keep hb') (hc.keep hb') HQ.2.2.1 HQ.2.2.2.1 lms (by omega) hw ha j1 j8,
        fun w' hb' => rload21 _ _ ms cs a j w' (hm.keep hb') (hc.keep hb') hw ha j1 j8,
        fun w' hb' => store22_any _ _ ms cs a j v w' (hm.keep hb') (hc.keep hb') HQ.2.2.1 HQ.2.2.2.1 lms lcs hw ha j1 j8 hv,
        fun w' hb' => rstore23 _ _ ms cs a j v w' (hm.keep hb') (hc.keep hb') HQ (by omega) hw hrc ha j1 j8 hv⟩
    · have hk' : k < 1 ∨ 8 < k := by omega
      exact ⟨0, 0, 0, 0, 0, cs, HQ, hrc,
        fun w' hb' => load20_out _ _ _ _ _ _ a k w' hk',
        fun w' hb' => rload21_out _ _ _ _ _ _ a k w' hk',
        fun w' hb' => store22_out _ _ ms cs a v k w' (hm.keep hb') (hc.keep hb') lms lcs hk',
        fun w' hb' => rstore23_out _ _ ms cs a v k w' (hm.keep hb') (hc.keep hb') hk'⟩
  obtain ⟨qc, wc, rcc⟩ := fit_clear HQ hw hrc a n ha
  have K24 : Hid (∀ w', Below w.heap.size w w' → Calls Try.prog 24 #[.agg #[.slice am ms.length pm, .slice ac cs.length pc], .int .u64 (a : Int), .int .u64 (n : Int)] w' fun e w'' => ∃ a1 n1 p1 a2 n2 p2, e = .returned (.agg #[.slice a1 n1 p1, .slice a2 n2 p2]) ∧ OwnH w'.heap.size w'' (.slice a1 n1 p1) (.slice a2 n2 p2) ms (clearN cs a n) ∧ Below w'.heap.size w' w'') := fun w' hb' =>
    (clear24 _ _ ms cs a n w' (hm.keep hb') (hc.keep hb') HQ.2.2.2.1 lms (by omega) hw (fun x hx => (HQ.2.2.2.2.2 x hx).1) hrc ha hn).mono (by
      rintro e w'' ⟨v1, v2, rfl, ho, hB⟩
      obtain ⟨a1, n1, p1, a2, n2, p2, rfl, rfl⟩ := ho.shape
      exact ⟨_, _, _, _, _, _, rfl, ho, hB⟩)
  have K25 : Hid (∀ w', Below w.heap.size w w' → Calls Try.prog 25 #[.agg #[.slice am ms.length pm, .slice ac cs.length pc], .int .u64 (a : Int), .int .u64 (n : Int)] w' fun e w'' => ∃ a2 n2 p2, e = .returned (.agg #[.slice am ms.length pm, .slice a2 n2 p2]) ∧ w''.ownsRow w'.heap.size 58 2 (.slice a2 n2 p2) (clearN cs a n).length (rowOf .u64 (clearN cs a n)) ∧ Below w'.heap.size w' w'') := fun w' hb' => by
    have h := rclear25 _ _ ms cs a n w' (hm.keep hb') (hc.keep hb') (by omega) hw hrc7 ha hn
    rw [rclear_eq HQ hw hrc a n ha] at h
    refine h.mono ?_
    rintro e w'' ⟨v2, rfl, ho, hB⟩
    obtain ⟨a2, n2, p2, rfl⟩ := own_shape ho
    exact ⟨_, _, _, rfl, ho, hB⟩
  obtain ⟨cn, hcn⟩ : ∃ x, x = clearN cs a n := ⟨_, rfl⟩
  rw [← hcn] at K24 K25 qc wc rcc
  have getlt : ∀ {l : List (Nat × Int)}, (∀ y ∈ l, y.1 < 18446744073709551616) → ∀ i, (l.getD i (0, 0)).1 < 18446744073709551616 := fun {l} h i => by
    by_cases hi : i < l.length
    · rw [getD_at hi]; exact h _ (List.getElem_mem hi)
    · rw [List.getD_eq_getElem?_getD, List.getElem?_eq_none (by omega)]; decide
  have K10s : Hid (∀ B vm' vc' w', OwnH B w' vm' vc' ms st → Calls Try.prog 10 #[.agg #[vm', vc']] w' fun e w'' => e = .returned (.bool true) ∧ Below w'.heap.size w' w'') := fun B vm' vc' w' ho => by
    have h := rfit10 vm' vc' ms st w' ho.m ho.c (getlt rcs)
    rw [fitB_q qs] at h
    exact h
  have K10c : Hid (∀ B vm' vc' w', OwnH B w' vm' vc' ms cn → Calls Try.prog 10 #[.agg #[vm', vc']] w' fun e w'' => e = .returned (.bool true) ∧ Below w'.heap.size w' w'') := fun B vm' vc' w' ho => by
    have h := rfit10 vm' vc' ms cn w' ho.m ho.c (getlt rcc)
    rw [fitB_q qc] at h
    exact h
  have K12s : Hid (∀ B vm' vc' vd w', OwnH B w' vm' vc' ms st → Sl .u64 w' vd st → Below w.heap.size w w' → Calls Try.prog 12 #[.agg #[vm', vc'], .agg #[.slice am ms.length pm, vd]] w' fun e w'' => e = .returned (.bool true) ∧ Below w'.heap.size w' w'') := fun B vm' vc' vd w' ho hd hb' => by
    have h := rsame12 vm' vc' _ vd ms st ms st w' ho.m ho.c (hm.keep hb') hd
    rw [decide_eq_true (⟨rfl, rfl⟩ : ms = ms ∧ st = st)] at h
    exact h
  have K12c : Hid (∀ B vm' vc' vd w', OwnH B w' vm' vc' ms cn → Sl .u64 w' vd cn → Below w.heap.size w w' → Calls Try.prog 12 #[.agg #[vm', vc'], .agg #[.slice am ms.length pm, vd]] w' fun e w'' => e = .returned (.bool true) ∧ Below w'.heap.size w' w'') := fun B vm' vc' vd w' ho hd hb' => by
    have h := rsame12 vm' vc' _ vd ms cn ms cn w' ho.m ho.c (hm.keep hb') hd
    rw [decide_eq_true (⟨rfl, rfl⟩ : ms = ms ∧ cn = cn)] at h
    exact h
  have K20 : Hid _ := K20
  have K21 : Hid _ := K21
  have K22 : Hid _ := K22
  have K23 : Hid _ := K23
  clear hm hc hfew hw HQ lms lcs hrc hrc' hrc7 qs rcs qc wc rcc hcn getlt ha hv hn
  go_enter Try.func4, Try.ntmps4
  go_wp2_with fail
  refine K8.mono ?_
  rintro e w1 ⟨rfl, hb1⟩
  have e0 := keep_cell hb1 c0
  have e1 := keep_cell hb1 c1
  clear K8
  go_wp2_with fail
  refine (K10.out w1 hb1).mono ?_
  rintro e w2 ⟨rfl, hb2⟩
  clear K10
  have e0 := keep_cell hb2 e0
  have e1 := keep_cell hb2 e1
  have hbW := below_tr hb1 hb2
  have hbw2 := below_tr hb hbW
  go_wp2_with fail
  refine (K20.out w2 hbw2).mono ?_
  rintro e w3 ⟨rfl, hb3⟩
  obtain ⟨W4, hW4, hb4, _, l0, l1, _, _⟩ := box2 w3 (.int .i64 gk) (.int .u64 (ga : Int)) 39
  have e0 := keep_cell hb4 (keep_cell hb3 e0)
  have e1 := keep_cell hb4 (keep_cell hb3 e1)
  have hbw4 := below_tr (below_tr hbw2 hb3) hb4
  clear hb1 hb2 hbW hbw2 hb3 hb4 K20
  go_wp2_with fail
  refine (K21.out W4 hbw4).mono ?_
  rintro e w5 ⟨rfl, hb5⟩
  obtain ⟨W6, hW6, hb6, _, m0, m1, _, _⟩ := box2 w5 (.int .i64 gk) (.int .u64 (ga : Int)) 39
  have e0 := keep_cell hb6 (keep_cell hb5 e0)
  have e1 := keep_cell hb6 (keep_cell hb5 e1)
  have l0 := keep_cell hb6 (keep_cell hb5 l0)
  have l1 := keep_cell hb6 (keep_cell hb5 l1)
  have hbw6 := below_tr (below_tr hbw4 hb5) hb6
  clear hbw4 hb5 hb6 K21
  go_wp2_with fail
  refine (K22.out W6 hbw6).mono ?_
  rintro e w7 ⟨vm7, vc7, rfl, ho7, hb7⟩
  obtain ⟨am7, nm7, pm7, ac7, nc7, pc7, rfl, rfl⟩ := ho7.shape
  obtain ⟨X8, hX8, hx8, hszx, d0, d1, _, _⟩ := box2 w7 (.slice am7 nm7 pm7) (.slice ac7 nc7 pc7) 25
  obtain ⟨W8, hW8, hb8, hsz8, n0, n1, _, _⟩ := box2 X8 (.int .i64 sk) (.int .u64 (sa : Int)) 39
  rw [hszx] at n0 n1
  have d0 := keep_cell hb8 d0
  have d1 := keep_cell hb8 d1
  have hb8 := below_tr hx8 hb8
  have e0 := keep_cell hb8 (keep_cell hb7 e0)
  have e1 := keep_cell hb8 (keep_cell hb7 e1)
  have l0 := keep_cell hb8 (keep_cell hb7 l0)
  have l1 := keep_cell hb8 (keep_cell hb7 l1)
  have m0 := keep_cell hb8 (keep_cell hb7 m0)
  have m1 := keep_cell hb8 (keep_cell hb7 m1)
  have hbw8 := below_tr (below_tr hbw6 hb7) hb8
  have ho8 := ho7.keep hb8
  clear hbw6 hb7 hb8 hx8 K22 ho7
  go_wp2_with fail
  refine (K23.out W8 hbw8).mono ?_
  rintro e w9 ⟨vd9, rfl, hs9, hb9⟩
  obtain ⟨ad9, nd9, pd9, rfl⟩ : ∃ a n p, vd9 = .slice a n p := by obtain ⟨a, p, h, _⟩ := hs9; exact ⟨_, _, _, h⟩
  obtain ⟨XA, hXA, hxa, hszxa, o0, o1, _, _⟩ := box2 w9 (.slice am ms.length pm) (.slice ad9 nd9 pd9) 25
  obtain ⟨WA, hWA, hba, hsza, p0, p1, _, _⟩ := box2 XA (.int .i64 sk) (.int .u64 (sa : Int)) 39
  rw [hszxa] at p0 p1
  have o0 := keep_cell hba o0
  have o1 := keep_cell hba o1
  have hba := below_tr hxa hba
  have e0 := keep_cell hba (keep_cell hb9 e0)
  have e1 := keep_cell hba (keep_cell hb9 e1)
  have l0 := keep_cell hba (keep_cell hb9 l0)
  have l1 := keep_cell hba (keep_cell hb9 l1)
  have m0 := keep_cell hba (keep_cell hb9 m0)
  have m1 := keep_cell hba (keep_cell hb9 m1)
  have d0 := keep_cell hba (keep_cell hb9 d0)
  have d1 := keep_cell hba (keep_cell hb9 d1)
  have n0 := keep_cell hba (keep_cell hb9 n0)
  have n1 := keep_cell hba (keep_cell hb9 n1)
  have hbwa := below_tr (below_tr hbw8 hb9) hba
  have hoa := (ho8.keep hb9).keep hba
  have hsa := hs9.keep hba
  clear hbw8 hb9 hba hxa K23 ho8 hs9
  have hlt : w.heap.size < WA.heap.size := World.block_lt_of_cell? _ _ e0
  go_upto_region 7 with fail
  clear hszx hsz8 hszxa hsza
  go_cut [19, 20] from 60 to 67 (fun s t wx => ∃ b19 b20 a1 n1 p1 a2 n2 p2 a3 n3 p3, s = .pointer (some ⟨b19, 0, none⟩) ∧ t = .pointer (some ⟨b20, 0, none⟩) ∧ Blk wx b19 (.slice a1 n1 p1) (.slice a2 n2 p2) ∧ Blk wx b20 (.slice am ms.length pm) (.slice a3 n3 p3) ∧
      OwnH 0 wx (.slice a1 n1 p1) (.slice a2 n2 p2) ms cn ∧ wx.ownsRow 0 58 2 (.slice a3 n3 p3) cn.length (rowOf .u64 cn) ∧ Below WA.heap.size WA wx)
  case first =>
    clear K12s K12c K10s K10c K13 l0 l1 m0 m1 d0 d1 n0 n1 o0 o1 p0 p1 hoa hsa
    go_region_held3 (fun w' => Below WA.heap.size WA w' ∧ w'.cell? ⟨w.heap.size, 0, none⟩ = some (.slice am ms.length pm) ∧ w'.cell? ⟨w.heap.size, 1, none⟩ = some (.slice ac cs.length pc))
      (refine ⟨?_, ?_, ?_⟩ <;> first | ((repeat (first | with_reducible assumption | with_reducible exact Below.refl _ _ | with_reducible refine Below.drew ?_ | with_reducible refine below_alloc ?_ _ | (with_reducible refine below_set ?_ ?_ _; rotate_left; focus (first | (simp; done) | (simp; omega))) | with_reducible refine below_tr ?_ (by with_reducible assumption))); done) | ((repeat (first | with_reducible assumption | with_reducible refine cell_drew ?_ | with_reducible refine cell_old ?_ _ | (with_reducible refine cell_far ?_ ?_ _; rotate_left; focus (first | (simp; done) | (simp; omega))) | with_reducible refine keep_cell (by with_reducible assumption) ?_)); done))
      (first | (go_at_call 24; refine (K24.out _ (by (repeat (first | with_reducible assumption | with_reducible exact Below.refl _ _ | with_reducible refine Below.drew ?_ | with_reducible refine below_alloc ?_ _ | (with_reducible refine below_set ?_ ?_ _; rotate_left; focus (first | (simp; done) | (simp; omega))) | with_reducible refine below_tr ?_ (by with_reducible assumption))))).mono ?_; rintro e wb ⟨a1, n1, p1, a2, n2, p2, rfl, ho1, hB1⟩; have ho1 := OwnH.base ho1 (Nat.zero_le _); have hz1 : WA.heap.size ≤ wb.heap.size := (show Below WA.heap.size WA wb from (by (repeat (first | with_reducible assumption | with_reducible exact Below.refl _ _ | with_reducible refine Below.drew ?_ | with_reducible refine below_alloc ?_ _ | (with_reducible refine below_set ?_ ?_ _; rotate_left; focus (first | (simp; done) | (simp; omega))) | with_reducible refine below_tr ?_ (by with_reducible assumption))))).size; (first | focus (refine (fun (A0 : Blk wb (WA.heap.size) (.slice none 0 0) (.slice none 0 0)) => ?_) ?_; rotate_left; focus ((repeat (first | with_reducible assumption | (with_reducible refine Blk.new ?_; first | rfl | (simp; done)) | with_reducible refine Blk.set2 ?_ | (with_reducible refine Blk.setO2 ?_ ?_; rotate_left; focus (first | with_reducible assumption | (simp; done))) | with_reducible refine Blk.alloc ?_ _ | with_reducible refine Blk.drew ?_ | with_reducible refine Blk.keep (by with_reducible assumption) ?_)); done)) | (refine (fun (A0 : True) => ?_) trivial)); (first | (have hhh : True := A0; clear hhh) | (have h0A0 := Blk.c0 A0; have h1A0 := Blk.c1 A0; have h2A0 := Blk.f0 A0; have h3A0 := Blk.f1 A0; have h4A0 := Blk.lt A0; have h5A0 := Nat.ne_of_lt h4A0; have h6A0 := h5A0.symm)); (first | focus (refine (fun (A1 : Blk wb (WA.heap.size + 1) (.slice none 0 0) (.slice none 0 0)) => ?_) ?_; rotate_left; focus ((repeat (first | with_reducible assumption | (with_reducible refine Blk.new ?_; first | rfl | (simp; done)) | with_reducible refine Blk.set2 ?_ | (with_reducible refine Blk.setO2 ?_ ?_; rotate_left; focus (first | with_reducible assumption | (simp; done))) | with_reducible refine Blk.alloc ?_ _ | with_reducible refine Blk.drew ?_ | with_reducible refine Blk.keep (by with_reducible assumption) ?_)); done)) | (refine (fun (A1 : True) => ?_) trivial)); (first | (have hhh : True := A1; clear hhh) | (have h0A1 := Blk.c0 A1; have h1A1 := Blk.c1 A1; have h2A1 := Blk.f0 A1; have h3A1 := Blk.f1 A1; have h4A1 := Blk.lt A1; have h5A1 := Nat.ne_of_lt h4A1; have h6A1 := h5A1.symm))) | (go_at_call 25; refine (K25.out _ (by (repeat (first | with_reducible assumption | with_reducible exact Below.refl _ _ | with_reducible refine Below.drew ?_ | with_reducible refine below_alloc ?_ _ | (with_reducible refine below_set ?_ ?_ _; rotate_left; focus (first | (simp; done) | (simp; omega))) | with_reducible refine below_tr ?_ (by with_reducible assumption))))).mono ?_; rintro e wd ⟨a3, n3, p3, rfl, ho2, hB2⟩; have ho2 := own_base ho2 (Nat.zero_le _); have hz2 : WA.heap.size ≤ wd.heap.size := (show Below WA.heap.size WA wd from (by (repeat (first | with_reducible assumption | with_reducible exact Below.refl _ _ | with_reducible refine Below.drew ?_ | with_reducible refine below_alloc ?_ _ | (with_reducible refine below_set ?_ ?_ _; rotate_left; focus (first | (simp; done) | (simp; omega))) | with_reducible refine below_tr ?_ (by with_reducible assumption))))).size; (first | focus (refine (fun (C0 : Blk wd (WA.heap.size) (.slice none 0 0) (.slice none 0 0)) => ?_) ?_; rotate_left; focus ((repeat (first | with_reducible assumption | (with_reducible refine Blk.new ?_; first | rfl | (simp; done)) | with_reducible refine Blk.set2 ?_ | (with_reducible refine Blk.setO2 ?_ ?_; rotate_left; focus (first | with_reducible assumption | (simp; done))) | with_reducible refine Blk.alloc ?_ _ | with_reducible refine Blk.drew ?_ | with_reducible refine Blk.keep (by with_reducible assumption) ?_)); done)) | (refine (fun (C0 : True) => ?_) trivial)); (first | (have hhh : True := C0; clear hhh) | (have h0C0 := Blk.c0 C0; have h1C0 := Blk.c1 C0; have h2C0 := Blk.f0 C0; have h3C0 := Blk.f1 C0; have h4C0 := Blk.lt C0; have h5C0 := Nat.ne_of_lt h4C0; have h6C0 := h5C0.symm)); (first | focus (refine (fun (C1 : Blk wd (WA.heap.size + 1) (.slice none 0 0) (.slice none 0 0)) => ?_) ?_; rotate_left; focus ((repeat (first | with_reducible assumption | (with_reducible refine Blk.new ?_; first | rfl | (simp; done)) | with_reducible refine Blk.set2 ?_ | (with_reducible refine Blk.setO2 ?_ ?_; rotate_left; focus (first | with_reducible assumption | (simp; done))) | with_reducible refine Blk.alloc ?_ _ | with_reducible refine Blk.drew ?_ | with_reducible refine Blk.keep (by with_reducible assumption) ?_)); done)) | (refine (fun (C1 : True) => ?_) trivial)); (first | (have hhh : True := C1; clear hhh) | (have h0C1 := Blk.c0 C1; have h1C1 := Blk.c1 C1; have h2C1 := Blk.f0 C1; have h3C1 := Blk.f1 C1; have h4C1 := Blk.lt C1; have h5C1 := Nat.ne_of_lt h4C1; have h6C1 := h5C1.symm)); (first | focus (refine (fun (C2 : Blk wd (wb.heap.size) (.slice none 0 0) (.slice none 0 0)) => ?_) ?_; rotate_left; focus ((repeat (first | with_reducible assumption | (with_reducible refine Blk.new ?_; first | rfl | (simp; done)) | with_reducible refine Blk.set2 ?_ | (with_reducible refine Blk.setO2 ?_ ?_; rotate_left; focus (first | with_reducible assumption | (simp; done))) | with_reducible refine Blk.alloc ?_ _ | with_reducible refine Blk.drew ?_ | with_reducible refine Blk.keep (by with_reducible assumption) ?_)); done)) | (refine (fun (C2 : True) => ?_) trivial)); (first | (have hhh : True := C2; clear hhh) | (have h0C2 := Blk.c0 C2; have h1C2 := Blk.c1 C2; have h2C2 := Blk.f0 C2; have h3C2 := Blk.f1 C2; have h4C2 := Blk.lt C2; have h5C2 := Nat.ne_of_lt h4C2; have h6C2 := h5C2.symm)); (first | focus (refine (fun (C3 : Blk wd (wb.heap.size + 1) (.slice none 0 0) (.slice none 0 0)) => ?_) ?_; rotate_left; focus ((repeat (first | with_reducible assumption | (with_reducible refine Blk.new ?_; first | rfl | (simp; done)) | with_reducible refine Blk.set2 ?_ | (with_reducible refine Blk.setO2 ?_ ?_; rotate_left; focus (first | with_reducible assumption | (simp; done))) | with_reducible refine Blk.alloc ?_ _ | with_reducible refine Blk.drew ?_ | with_reducible refine Blk.keep (by with_reducible assumption) ?_)); done)) | (refine (fun (C3 : True) => ?_) trivial)); (first | (have hhh : True := C3; clear hhh) | (have h0C3 := Blk.c0 C3; have h1C3 := Blk.c1 C3; have h2C3 := Blk.f0 C3; have h3C3 := Blk.f1 C3; have h4C3 := Blk.lt C3; have h5C3 := Nat.ne_of_lt h4C3; have h6C3 := h5C3.symm))))
    all_goals go_wp2
    all_goals go_meet
    all_goals refine ⟨_, _, a1, n1, p1, a2, n2, p2, a3, n3, p3, rfl, rfl, ?_, ?_, ?_, ?_, ?_⟩
    all_goals first | ((repeat (first | with_reducible assumption | (with_reducible refine Blk.new ?_; first | rfl | (simp; done)) | with_reducible refine Blk.set2 ?_ | (with_reducible refine Blk.setO2 ?_ ?_; rotate_left; focus (first | with_reducible assumption | (simp; done))) | with_reducible refine Blk.alloc ?_ _ | with_reducible refine Blk.drew ?_ | with_reducible refine Blk.keep (by with_reducible assumption) ?_)); done) | ((repeat (first | with_reducible assumption | with_reducible refine OwnH.alloc ?_ _ | with_reducible refine OwnH.drew ?_ | (with_reducible refine OwnH.blk2 ?_ ?_; rotate_left; focus ((repeat (first | with_reducible assumption | (with_reducible refine Blk.new ?_; first | rfl | (simp; done)) | with_reducible refine Blk.set2 ?_ | (with_reducible refine Blk.setO2 ?_ ?_; rotate_left; focus (first | with_reducible assumption | (simp; done))) | with_reducible refine Blk.alloc ?_ _ | with_reducible refine Blk.drew ?_ | with_reducible refine Blk.keep (by with_reducible assumption) ?_)); done)) | with_reducible refine OwnH.keep ?_ (by with_reducible assumption))); done) | ((repeat (first | with_reducible assumption | (with_reducible refine Blk.own2 ?_ (by decide) ?_; focus ((repeat (first | with_reducible assumption | (with_reducible refine Blk.new ?_; first | rfl | (simp; done)) | with_reducible refine Blk.set2 ?_ | (with_reducible refine Blk.setO2 ?_ ?_; rotate_left; focus (first | with_reducible assumption | (simp; done))) | with_reducible refine Blk.alloc ?_ _ | with_reducible refine Blk.drew ?_ | with_reducible refine Blk.keep (by with_reducible assumption) ?_)); done)) | with_reducible refine own_alloc ?_ _ | with_reducible refine own_drew ?_ | with_reducible refine own_keep ?_ (by with_reducible assumption))); done) | ((repeat (first | with_reducible assumption | with_reducible exact Below.refl _ _ | with_reducible refine Below.drew ?_ | with_reducible refine below_alloc ?_ _ | (with_reducible refine below_set ?_ ?_ _; rotate_left; focus (first | (simp; done) | (simp; omega))) | with_reducible refine below_tr ?_ (by with_reducible assumption))); done)

  case rest =>
    obtain ⟨b19, b20, a1, k1', p1', a2, k2', p2', a3, k3', p3', rfl, rfl, Q1, Q2, hox, hsx, hbx⟩ := hcut
    have s0 := Q1.c0
    have s1 := Q1.c1
    have t0 := Q2.c0
    have t1 := Q2.c1
    have l0 := keep_cell hbx l0
    have l1 := keep_cell hbx l1
    have m0 := keep_cell hbx m0
    have m1 := keep_cell hbx m1
    have d0 := keep_cell hbx d0
    have d1 := keep_cell hbx d1
    have n0 := keep_cell hbx n0
    have n1 := keep_cell hbx n1
    have o0 := keep_cell hbx o0
    have o1 := keep_cell hbx o1
    have p0 := keep_cell hbx p0
    have p1 := keep_cell hbx p1
    have hoa' := hoa.keep hbx
    have hsa' := hsa.keep hbx
    have hsx := own_sl hsx
    have hbwx := below_tr hbwa hbx
    clear hbx hbwa hoa hsa Q1 Q2 e0 e1
    go_wp2_with fail
    refine (K12s.out _ _ _ _ wc hoa' hsa' hbwx).mono ?_
    rintro e wf ⟨rfl, hbf⟩
    have n0 := keep_cell hbf n0
    have n1 := keep_cell hbf n1
    have p0 := keep_cell hbf p0
    have p1 := keep_cell hbf p1
    have d0 := keep_cell hbf d0
    have d1 := keep_cell hbf d1
    have s0 := keep_cell hbf s0
    have s1 := keep_cell hbf s1
    have t0 := keep_cell hbf t0
    have t1 := keep_cell hbf t1
    have hoa' := hoa'.keep hbf
    have hox := hox.keep hbf
    have hsx := hsx.keep hbf
    have hbwf := below_tr hbwx hbf
    clear hbf hbwx
    go_wp2_with fail
    refine (K10s.out _ _ _ wf hoa').mono ?_
    rintro e wg ⟨rfl, hbg⟩
    have s0 := keep_cell hbg s0
    have s1 := keep_cell hbg s1
    have t0 := keep_cell hbg t0
    have t1 := keep_cell hbg t1
    have hox := hox.keep hbg
    have hsx := hsx.keep hbg
    have hbwg := below_tr hbwf hbg
    clear hbg hbwf
    go_wp2_with fail
    refine (K12c.out _ _ _ _ wg hox hsx hbwg).mono ?_
    rintro e wh ⟨rfl, hbh⟩
    have s0 := keep_cell hbh s0
    have s1 := keep_cell hbh s1
    have hox := hox.keep hbh
    have hbwh := below_tr hbwg hbh
    clear hbh hbwg
    go_wp2_with fail
    refine (K10c.out _ _ _ wh hox).mono ?_
    rintro e wi ⟨rfl, hbi⟩
    have hbwi := below_tr hbwh hbi
    clear hbi hbwh
    go_wp2_with fail
    refine (K13.out wi).mono ?_
    rintro e wz ⟨rfl, hbz⟩
    go_wp2
    go_ret
    exact ⟨rfl, below_tr hbwi hbz⟩
end Go.Proofs.Ytolmcbnammhjjaa
