/- What is proved here: the law HostParts, walked. -/
import Derived.Test.YtolmcbnammhjjaaClearPlain
import Derived.Test.YtolmcbnammhjjaaAwake
import Derived.Test.YtolmcbnammhjjaaFresh
namespace Go.Proofs.Ytolmcbnammhjjaa
open Go.RowKit
set_option linter.unusedVariables false
set_option maxHeartbeats 4000000 in
set_option maxRecDepth 100000 in
theorem parts_walk (vm vc : Value) (ms cs : List (Nat × Int)) (a n q : Nat) (w : World) (hm : Sl .i64 w vm ms) (hc : Sl .u64 w vc cs) (hrc : ∀ y ∈ cs, y.1 < 18446744073709551616) (hw : Words cs)
    (ha : a < 18446744073709551616) (hn : n < 65536) (hq : q < 18446744073709551616) :
    Calls Try.prog 7 #[.agg #[vm, vc], .int .u64 (a : Int), .int .u16 (n : Int), .int .u64 (q : Int)] w fun e w' => e = .returned (.bool true) ∧ Below w.heap.size w w' := by
  obtain ⟨W, hW, hb, hsz, c0, c1, _, _⟩ := box2 w vm vc 25
  obtain ⟨am, pm, rfl, lpm1, lpm2⟩ : ∃ a p, vm = .slice a ms.length p ∧ ms.length ≤ p ∧ p ≤ 9223372036854775807 := by obtain ⟨a, p, h, h1, h2, _⟩ := id hm; exact ⟨_, _, h, h1, h2⟩
  obtain ⟨ac, pc, rfl, lpc1, lpc2⟩ : ∃ a p, vc = .slice a cs.length p ∧ cs.length ≤ p ∧ p ≤ 9223372036854775807 := by obtain ⟨a, p, h, h1, h2, _⟩ := id hc; exact ⟨_, _, h, h1, h2⟩
  have K8 := few8 am ac ms.length pm cs.length pc W (by omega) (by omega)
  have K13 : Hid (∀ w', Calls Try.prog 13 #[] w' fun e w'' => e = .returned (.bool true) ∧ Below w'.heap.size w' w'') := awake13
  have hrc' : ∀ i, (cs.getD i (0, 0)).1 < 18446744073709551616 := fun i => by
    by_cases hi : i < cs.length
    · rw [getD_at hi]; exact hrc _ (List.getElem_mem hi)
    · rw [List.getD_eq_getElem?_getD, List.getElem?_eq_none (by omega)]; decide
  have K10 : Hid (∀ w', Below W.heap.size W w' → Calls Try.prog 10 #[.agg #[.slice am ms.length pm, .slice ac cs.length pc]] w' fun e w'' => e = .returned (.bool (fitB ms cs)) ∧ Below w'.heap.size w' w'') := fun w' hb' =>
    rfit10 _ _ ms cs w' (hm.keep (below_tr hb hb')) (hc.keep (below_tr hb hb')) hrc'
  clear lpm1 lpm2 lpc1 lpc2
  by_cases hfew : ms.length ≤ 70 ∧ cs.length ≤ 200
  case neg =>
    rw [decide_eq_false hfew] at K8
    have HM : Hid (Sl .i64 w (.slice am ms.length pm) ms ∧ Sl .u64 w (.slice ac cs.length pc) cs) := ⟨hm, hc⟩
    clear hfew hm hc
    go_enter Try.func7, Try.ntmps7
    go_wp2_with fail
    refine K8.mono ?_
    rintro e w1 ⟨rfl, hb1⟩
    go_wp2_with fail
    refine (K13.out w1).mono ?_
    rintro e wz ⟨rfl, hbz⟩
    go_wp2
    go_ret
    exact ⟨rfl, (by (repeat (first | with_reducible assumption | with_reducible exact Below.refl _ _ | with_reducible refine Below.drew ?_ | with_reducible refine below_alloc ?_ _ | (with_reducible refine below_set ?_ ?_ _; rotate_left; focus (first | (simp; done) | (simp; omega))) | with_reducible refine below_tr ?_ (by with_reducible assumption))))⟩
  rw [decide_eq_true hfew] at K8
  cases hfit : fitB ms cs with
  | false =>
    rw [hfit] at K10
    clear hfew hm hc hfit
    go_enter Try.func7, Try.ntmps7
    go_wp2_with fail
    refine K8.mono ?_
    rintro e w1 ⟨rfl, hb1⟩
    have e0 := keep_cell hb1 c0
    have e1 := keep_cell hb1 c1
    clear K8
    go_wp2_with fail
    refine (K10.out w1 hb1).mono ?_
    rintro e w2 ⟨rfl, hb2⟩
    go_wp2_with fail
    refine (K13.out w2).mono ?_
    rintro e wz ⟨rfl, hbz⟩
    go_wp2
    go_ret
    exact ⟨rfl, (by (repeat (first | with_reducible assumption | with_reducible exact Below.refl _ _ | with_reducible refine Below.drew ?_ | with_reducible refine below_alloc ?_ _ | (with_reducible refine below_set ?_ ?_ _; rotate_left; focus (first | (simp; done) | (simp; omega))) | with_reducible refine below_tr ?_ (by with_reducible assumption))))⟩
  | true =>
  rw [hfit] at K10
  have HQ := q_fitB hfit
  clear hfit
  have lms : ms.length ≤ 1073741824 := by omega
  have lcs : cs.length ≤ 536870912 := by omega
  have K20 : Hid (∀ w', Below w.heap.size w w' → Calls Try.prog 20 #[.agg #[.slice am ms.length pm, .slice ac cs.length pc], .int .u64 (a : Int), .int .i64 8] w' fun e w'' => e = .returned (.tuple #[.int .u64 ((loadV ms cs a 8 : Nat) : Int), .agg #[.int .i64 (faultFrom ms a 1 0 8).1, .int .u64 ((faultFrom ms a 1 0 8).2 : Int)]]) ∧ Below w'.heap.size w' w'') := fun w' hb' =>
    load20_any _ _ ms cs a 8 w' (hm.keep hb') (hc.keep hb') HQ.2.2.1 HQ.2.2.2.1 lms (by omega) hw ha (by omega) (by omega)
  obtain ⟨q2, w2', rc2⟩ := fit_clear HQ hw hrc a n ha
  have K24 : Hid (∀ w', Below w.heap.size w w' → Calls Try.prog 24 #[.agg #[.slice am ms.length pm, .slice ac cs.length pc], .int .u64 (a : Int), .int .u64 (n : Int)] w' fun e w'' => ∃ vm' vc', e = .returned (.agg #[vm', vc']) ∧ OwnH w'.heap.size w'' vm' vc' ms (clearN cs a n) ∧ Below w'.heap.size w' w'') := fun w' hb' =>
    clear24 _ _ ms cs a n w' (hm.keep hb') (hc.keep hb') HQ.2.2.2.1 lms lcs hw (fun x hx => (HQ.2.2.2.2.2 x hx).1) hrc ha (by omega)
  have K26 : Hid (∀ B vm' vc' w', OwnH B w' vm' vc' ms (clearN cs a n) → Calls Try.prog 26 #[.agg #[vm', vc'], .int .u64 (q : Int)] w' fun e w'' => e = .returned (.int .u8 ((peekN (clearN cs a n) q : Nat) : Int)) ∧ Below w'.heap.size w' w'') := fun B vm' vc' w' ho =>
    peek26 vm' vc' (clearN cs a n) q w' (by obtain ⟨a, n, p, _, _, _, h, _⟩ := ho.shape; exact ⟨a, n, p, h⟩) ho.c w2' hq
  have K26h : Hid (∀ w', Below w.heap.size w w' → Calls Try.prog 26 #[.agg #[.slice am ms.length pm, .slice ac cs.length pc], .int .u64 (q : Int)] w' fun e w'' => e = .returned (.int .u8 ((peekN cs q : Nat) : Int)) ∧ Below w'.heap.size w' w'') := fun w' hb' =>
    peek26 _ _ cs q w' ⟨_, _, _, rfl⟩ (hc.keep hb') hw hq
  have hpc := peek_clear cs HQ.2.2.2.1 hw a n q ha hq
  obtain ⟨z, hz⟩ : ∃ z : Int, z = 0 := ⟨_, rfl⟩
  obtain ⟨zn, hzn⟩ : ∃ z : Nat, z = 0 := ⟨_, rfl⟩
  have hzb : (z != 0) = false := by simpa using hz
  obtain ⟨gk, hgk⟩ : ∃ x, x = (faultFrom ms a 1 0 8).1 := ⟨_, rfl⟩
  obtain ⟨ga, hga⟩ : ∃ x, x = (faultFrom ms a 1 0 8).2 := ⟨_, rfl⟩
  obtain ⟨lv, hlv⟩ : ∃ x, x = loadV ms cs a 8 := ⟨_, rfl⟩
  rw [← hgk, ← hga, ← hlv] at K20
  have HLT : Hid (gk = 0 → a + 7 < 18446744073709551616) := fun e => by
    rw [hgk] at e
    exact faultK_lt ms a 7 1 ((faultFrom_kind ms a 1 8 0 e).2 7 (by omega) (by omega))
  have hlvlt : lv < 18446744073709551616 := by
    rw [hlv, loadV]
    split
    · refine Nat.lt_pow_two_of_testBit _ (n := 64) (fun i hi => ?_)
      rw [loadN_bit cs hw a 8 i (by omega) (by omega), decide_eq_false (by omega), Bool.false_and]
    · omega
  have K20k : Hid (gk = 0 → ∀ k, k < 8 → ∀ w', Below w.heap.size w w' → Calls Try.prog 20 #[.agg #[.slice am ms.length pm, .slice ac cs.length pc], .int .u64 ((a + k : Nat) : Int), .int .i64 1] w' fun e w'' => e = .returned (.tuple #[.int .u64 ((lv / 2 ^ (8 * k) % 256 : Nat) : Int), .agg #[.int .i64 z, .int .u64 (zn : Int)]]) ∧ Below w'.heap.size w' w'') := fun e k hk w' hb' => by
    have hlt := HLT.out e
    have e' : (faultFrom ms a 1 0 8).1 = 0 := hgk ▸ e
    have hz1 : faultFrom ms (a + k) 1 0 1 = (0, 0) := faultFrom_zero ms (a + k) 1 1 0 (fun j h1 h2 => by
      obtain rfl : j = 0 := by omega
      have h := (faultFrom_kind ms a 1 8 0 e').2 k (by omega) (by omega)
      rw [faultK] at h ⊢
      exact h)
    have h := load20_any _ _ ms cs (a + k) 1 w' (hm.keep hb') (hc.keep hb') HQ.2.2.1 HQ.2.2.2.1 lms (by omega) hw (by omega) (by omega) (by omega)
    rw [loadV, hz1, if_pos rfl, load_byte cs hw a k hk] at h
    rw [hlv, loadV, if_pos e', hz, hzn]
    exact h
  obtain ⟨pb, hpb⟩ : ∃ x, x = peekN (clearN cs a n) q := ⟨_, rfl⟩
  obtain ⟨ph, hph⟩ : ∃ x, x = peekN cs q := ⟨_, rfl⟩
  rw [← hpb] at K26
  rw [← hph] at K26h
  have HPB : Hid ((a ≤ q ∧ q < a + n → pb = 0) ∧ (¬ (a ≤ q ∧ q < a + n) → pb = ph)) := ⟨fun h => by rw [hpb, hpc, if_pos h], fun h => by rw [hpb, hpc, if_neg h, hph]⟩
  have HC2 : Hid (a < 18446744073709551616 ∧ q < 18446744073709551616) := ⟨ha, hq⟩
  generalize clearN cs a n = cn at K24 K26 q2 w2' rc2 hpb hpc
  have xn : IntKind.u64.wrap (n : Int) = (n : Int) := by rw [IntKind.wrap_u64]; omega
  have HAL : Hid (a < 18446744073709551616) := ha
  have HSH : Hid (∀ k, k < 8 → bits .and .u64 ((lv : Int) / 2 ^ (8 * k)) 255 = ((lv / 2 ^ (8 * k) % 256 : Nat) : Int)) := fun k hk => by
    have hs := shr64 lv (8 * k) (by omega)
    rw [Nat.min_eq_left (by omega)] at hs
    rw [hs]
    have h := and64 (lv / 2 ^ (8 * k)) 255 (Nat.lt_of_le_of_lt (Nat.div_le_self _ _) hlvlt) (by omega)
    rw [show (255 : Nat) = 2 ^ 8 - 1 by rfl, Nat.and_two_pow_sub_one_eq_mod] at h
    exact h
  clear hm hc hfew hw HQ lms lcs hrc hrc' q2 w2' rc2 hpb hph hpc hz hzn hgk hga hlv hlvlt hn hq ha
  by_cases hg : gk = 0
  · have hlt := HLT.out hg
    have K20k := K20k.out hg
    have K20k : Hid _ := K20k
    have HLT : Hid (a + 7 < 18446744073709551616) := hlt
    have hg0 : (gk == 0) = true := by simpa using hg
    clear hg hlt
    go_enter Try.func7, Try.ntmps7
    go_wp2_with fail
    refine K8.mono ?_
    rintro e w1 ⟨rfl, hb1⟩
    have e0 := keep_cell hb1 c0
    have e1 := keep_cell hb1 c1
    clear K8
    go_wp2_with fail
    refine (K10.out w1 hb1).mono ?_
    rintro e w2 ⟨rfl, hb2⟩
    clear K10
    have e0 := keep_cell hb2 e0
    have e1 := keep_cell hb2 e1
    have hbW := below_tr hb1 hb2
    have hbw2 := below_tr hb hbW
    go_wp2_with fail
    refine (K20.out w2 hbw2).mono ?_
    rintro e w3 ⟨rfl, hb3⟩
    obtain ⟨W4, hW4, hb4, _, m0, m1, _, _⟩ := box2 w3 (.int .i64 gk) (.int .u64 (ga : Int)) 39
    have e0 := keep_cell hb4 (keep_cell hb3 e0)
    have e1 := keep_cell hb4 (keep_cell hb3 e1)
    have hbw4 := below_tr (below_tr hbw2 hb3) hb4
    clear hb1 hb2 hbW hbw2 hb3 hb4 K20
    go_wp2
    go_loopw [34] (fun i wr => ∃ k : Nat, k ≤ 8 ∧ i = .int .u64 (k : Int) ∧ Below W4.heap.size W4 wr) (fun i _ => 8 - (intOf i).toNat)
    case atStart => exact ⟨0, Nat.zero_le _, rfl, Below.refl _ _⟩
    case round =>
      obtain ⟨k, hk, rfl, hbr⟩ := hrel
      have e0 := keep_cell hbr e0
      have e1 := keep_cell hbr e1
      have hbwx := below_tr hbw4 hbr
      by_cases hk8 : k < 8
      · obtain ⟨ak, hak⟩ : ∃ x, x = a + k := ⟨_, rfl⟩
        have K20k := K20k.out k hk8 wr hbwx
        rw [← hak] at K20k
        have xak : IntKind.u64.wrap ((a : Int) + (k : Int)) = (ak : Int) := by have := HLT.out; rw [IntKind.wrap_u64]; omega
        have HSH := HSH.out k hk8
        obtain ⟨bk, hbk⟩ : ∃ x, x = lv / 2 ^ (8 * k) % 256 := ⟨_, rfl⟩
        rw [← hbk] at K20k HSH
        have x8 : IntKind.u64.wrap (8 * (k : Int)) = ((8 * k : Nat) : Int) := by rw [IntKind.wrap_u64]; omega
        clear hak hbk
        go_wp2_with fail
        refine K20k.mono ?_
        rintro e w5 ⟨rfl, hb5⟩
        obtain ⟨W6, hW6, hb6, _, o0, o1, _, _⟩ := box2 w5 (.int .i64 z) (.int .u64 (zn : Int)) 39
        have hbx := below_tr (below_tr hbr hb5) hb6
        clear K20k hb5 hb6
        go_wp2
        go_roundw
        case rel => exact ⟨k + 1, by omega, by go_num, hbx⟩
        case measure => simp [intOf]; omega
      · obtain rfl : k = 8 := by omega
        clear hk8 hk
        by_cases h1 : a ≤ q
        · by_cases h2 : q < a + n
          · obtain ⟨d, hd, hd2⟩ : ∃ d : Nat, IntKind.u64.wrap ((q : Int) - (a : Int)) = (d : Int) ∧ d < n := ⟨q - a, by have := HC2.out; rw [IntKind.wrap_u64]; omega, by omega⟩
            have A3 : ((pb : Int) == 0) = true := by simp [HPB.out.1 ⟨h1, h2⟩]
            clear h2
            go_wp2_with fail
            refine (K24.out wr hbwx).mono ?_
            rintro e w7 ⟨vm7, vc7, rfl, ho7, hb7⟩
            obtain ⟨am7, nm7, pm7, ac7, nc7, pc7, rfl, rfl⟩ := ho7.shape
            obtain ⟨W8, hW8, hb8, _, d0, d1, _, _⟩ := box2 w7 (.slice am7 nm7 pm7) (.slice ac7 nc7 pc7) 25
            have e0 := keep_cell hb8 (keep_cell hb7 e0)
            have e1 := keep_cell hb8 (keep_cell hb7 e1)
            have hbw8 := below_tr (below_tr hbwx hb7) hb8
            go_wp2_with fail
            refine (K26.out _ _ _ W8 (ho7.keep hb8)).mono ?_
            rintro e w9 ⟨rfl, hb9⟩
            have e0 := keep_cell hb9 e0
            have e1 := keep_cell hb9 e1
            have hbw9 := below_tr hbw8 hb9
            clear hb7 hb8 hb9 hbw8 hbwx
            go_wp2_with fail
            refine (K13.out w9).mono ?_
            rintro e wz ⟨rfl, hbz⟩
            go_wp2
            go_ret
            exact ⟨rfl, below_tr hbw9 hbz⟩

          · obtain ⟨d, hd, hd2⟩ : ∃ d : Nat, IntKind.u64.wrap ((q : Int) - (a : Int)) = (d : Int) ∧ ¬ d < n := ⟨q - a, by have := HC2.out; rw [IntKind.wrap_u64]; omega, by omega⟩
            obtain rfl := HPB.out.2 (fun h => h2 h.2)
            clear h2
            go_wp2_with fail
            refine (K24.out wr hbwx).mono ?_
            rintro e w7 ⟨vm7, vc7, rfl, ho7, hb7⟩
            obtain ⟨am7, nm7, pm7, ac7, nc7, pc7, rfl, rfl⟩ := ho7.shape
            obtain ⟨W8, hW8, hb8, _, d0, d1, _, _⟩ := box2 w7 (.slice am7 nm7 pm7) (.slice ac7 nc7 pc7) 25
            have e0 := keep_cell hb8 (keep_cell hb7 e0)
            have e1 := keep_cell hb8 (keep_cell hb7 e1)
            have hbw8 := below_tr (below_tr hbwx hb7) hb8
            go_wp2_with fail
            refine (K26.out _ _ _ W8 (ho7.keep hb8)).mono ?_
            rintro e w9 ⟨rfl, hb9⟩
            have e0 := keep_cell hb9 e0
            have e1 := keep_cell hb9 e1
            have hbw9 := below_tr hbw8 hb9
            clear hb7 hb8 hb9 hbw8 hbwx
            go_wp2_with fail
            refine (K26h.out w9 hbw9).mono ?_
            rintro e wb ⟨rfl, hbb⟩
            have hbwb := below_tr hbw9 hbb
            clear hbb hbw9
            go_wp2_with fail
            refine (K13.out wb).mono ?_
            rintro e wz ⟨rfl, hbz⟩
            go_wp2
            go_ret
            exact ⟨rfl, below_tr hbwb hbz⟩

        · obtain rfl := HPB.out.2 (fun h => h1 h.1)
          go_wp2_with fail
          refine (K24.out wr hbwx).mono ?_
          rintro e w7 ⟨vm7, vc7, rfl, ho7, hb7⟩
          obtain ⟨am7, nm7, pm7, ac7, nc7, pc7, rfl, rfl⟩ := ho7.shape
          obtain ⟨W8, hW8, hb8, _, d0, d1, _, _⟩ := box2 w7 (.slice am7 nm7 pm7) (.slice ac7 nc7 pc7) 25
          have e0 := keep_cell hb8 (keep_cell hb7 e0)
          have e1 := keep_cell hb8 (keep_cell hb7 e1)
          have hbw8 := below_tr (below_tr hbwx hb7) hb8
          go_wp2_with fail
          refine (K26.out _ _ _ W8 (ho7.keep hb8)).mono ?_
          rintro e w9 ⟨rfl, hb9⟩
          have e0 := keep_cell hb9 e0
          have e1 := keep_cell hb9 e1
          have hbw9 := below_tr hbw8 hb9
          clear hb7 hb8 hb9 hbw8 hbwx
          go_wp2_with fail
          refine (K26h.out w9 hbw9).mono ?_
          rintro e wb ⟨rfl, hbb⟩
          have hbwb := below_tr hbw9 hbb
          clear hbb hbw9
          go_wp2_with fail
          refine (K13.out wb).mono ?_
          rintro e wz ⟨rfl, hbz⟩
          go_wp2
          go_ret
          exact ⟨rfl, below_tr hbwb hbz⟩

  · have hg0 : (gk == 0) = false := by simpa using hg
    clear hg K20k HLT
    go_enter Try.func7, Try.ntmps7
    go_wp2_with fail
    refine K8.mono ?_
    rintro e w1 ⟨rfl, hb1⟩
    have e0 := keep_cell hb1 c0
    have e1 := keep_cell hb1 c1
    clear K8
    go_wp2_with fail
    refine (K10.out w1 hb1).mono ?_
    rintro e w2 ⟨rfl, hb2⟩
    clear K10
    have e0 := keep_cell hb2 e0
    have e1 := keep_cell hb2 e1
    have hbW := below_tr hb1 hb2
    have hbw2 := below_tr hb hbW
    go_wp2_with fail
    refine (K20.out w2 hbw2).mono ?_
    rintro e w3 ⟨rfl, hb3⟩
    obtain ⟨W4, hW4, hb4, _, m0, m1, _, _⟩ := box2 w3 (.int .i64 gk) (.int .u64 (ga : Int)) 39
    have e0 := keep_cell hb4 (keep_cell hb3 e0)
    have e1 := keep_cell hb4 (keep_cell hb3 e1)
    have hbwx := below_tr (below_tr hbw2 hb3) hb4
    clear hb1 hb2 hbW hbw2 hb3 hb4 K20
    by_cases h1 : a ≤ q
    · by_cases h2 : q < a + n
      · obtain ⟨d, hd, hd2⟩ : ∃ d : Nat, IntKind.u64.wrap ((q : Int) - (a : Int)) = (d : Int) ∧ d < n := ⟨q - a, by have := HC2.out; rw [IntKind.wrap_u64]; omega, by omega⟩
        have A3 : ((pb : Int) == 0) = true := by simp [HPB.out.1 ⟨h1, h2⟩]
        clear h2
        go_wp2_with fail
        refine (K24.out W4 hbwx).mono ?_
        rintro e w7 ⟨vm7, vc7, rfl, ho7, hb7⟩
        obtain ⟨am7, nm7, pm7, ac7, nc7, pc7, rfl, rfl⟩ := ho7.shape
        obtain ⟨W8, hW8, hb8, _, d0, d1, _, _⟩ := box2 w7 (.slice am7 nm7 pm7) (.slice ac7 nc7 pc7) 25
        have e0 := keep_cell hb8 (keep_cell hb7 e0)
        have e1 := keep_cell hb8 (keep_cell hb7 e1)
        have hbw8 := below_tr (below_tr hbwx hb7) hb8
        go_wp2_with fail
        refine (K26.out _ _ _ W8 (ho7.keep hb8)).mono ?_
        rintro e w9 ⟨rfl, hb9⟩
        have e0 := keep_cell hb9 e0
        have e1 := keep_cell hb9 e1
        have hbw9 := below_tr hbw8 hb9
        clear hb7 hb8 hb9 hbw8 hbwx
        go_wp2_with fail
        refine (K13.out w9).mono ?_
        rintro e wz ⟨rfl, hbz⟩
        go_wp2
        go_ret
        exact ⟨rfl, below_tr hbw9 hbz⟩

      · obtain ⟨d, hd, hd2⟩ : ∃ d : Nat, IntKind.u64.wrap ((q : Int) - (a : Int)) = (d : Int) ∧ ¬ d < n := ⟨q - a, by have := HC2.out; rw [IntKind.wrap_u64]; omega, by omega⟩
        obtain rfl := HPB.out.2 (fun h => h2 h.2)
        clear h2
        go_wp2_with fail
        refine (K24.out W4 hbwx).mono ?_
        rintro e w7 ⟨vm7, vc7, rfl, ho7, hb7⟩
        obtain ⟨am7, nm7, pm7, ac7, nc7, pc7, rfl, rfl⟩ := ho7.shape
        obtain ⟨W8, hW8, hb8, _, d0, d1, _, _⟩ := box2 w7 (.slice am7 nm7 pm7) (.slice ac7 nc7 pc7) 25
        have e0 := keep_cell hb8 (keep_cell hb7 e0)
        have e1 := keep_cell hb8 (keep_cell hb7 e1)
        have hbw8 := below_tr (below_tr hbwx hb7) hb8
        go_wp2_with fail
        refine (K26.out _ _ _ W8 (ho7.keep hb8)).mono ?_
        rintro e w9 ⟨rfl, hb9⟩
        have e0 := keep_cell hb9 e0
        have e1 := keep_cell hb9 e1
        have hbw9 := below_tr hbw8 hb9
        clear hb7 hb8 hb9 hbw8 hbwx
        go_wp2_with fail
        refine (K26h.out w9 hbw9).mono ?_
        rintro e wb ⟨rfl, hbb⟩
        have hbwb := below_tr hbw9 hbb
        clear hbb hbw9
        go_wp2_with fail
        refine (K13.out wb).mono ?_
        rintro e wz ⟨rfl, hbz⟩
        go_wp2
        go_ret
        exact ⟨rfl, below_tr hbwb hbz⟩

    · obtain rfl := HPB.out.2 (fun h => h1 h.1)
      go_wp2_with fail
      refine (K24.out W4 hbwx).mono ?_
      rintro e w7 ⟨vm7, vc7, rfl, ho7, hb7⟩
      obtain ⟨am7, nm7, pm7, ac7, nc7, pc7, rfl, rfl⟩ := ho7.shape
      obtain ⟨W8, hW8, hb8, _, d0, d1, _, _⟩ := box2 w7 (.slice am7 nm7 pm7) (.slice ac7 nc7 pc7) 25
      have e0 := keep_cell hb8 (keep_cell hb7 e0)
      have e1 := keep_cell hb8 (keep_cell hb7 e1)
      have hbw8 := below_tr (below_tr hbwx hb7) hb8
      go_wp2_with fail
      refine (K26.out _ _ _ W8 (ho7.keep hb8)).mono ?_
      rintro e w9 ⟨rfl, hb9⟩
      have e0 := keep_cell hb9 e0
      have e1 := keep_cell hb9 e1
      have hbw9 := below_tr hbw8 hb9
      clear hb7 hb8 hb9 hbw8 hbwx
      go_wp2_with fail
      refine (K26h.out w9 hbw9).mono ?_
      rintro e wb ⟨rfl, hbb⟩
      have hbwb := below_tr hbw9 hbb
      clear hbb hbw9
      go_wp2_with fail
      refine (K13.out wb).mono ?_
      rintro e wz ⟨rfl, hbz⟩
      go_wp2
      go_ret
      exact ⟨rfl, below_tr hbwb hbz⟩

end Go.Proofs.Ytolmcbnammhjjaa
