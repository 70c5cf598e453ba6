/- What is proved here: Fit. -/
import Derived.Test.YtolmcbnammhjjaaRises
import Derived.Test.YtolmcbnammhjjaaPlain
namespace Go.Proofs.Ytolmcbnammhjjaa
open Go.RowKit
set_option linter.unusedVariables false
theorem srtB_yes {xs : List (Nat × Int)} (h : srtB xs = true) : Srt xs := by
  rw [srtB, decide_eq_true_iff] at h
  exact srt_of (fun i hi h0 => h i hi h0)
theorem srtB_no {xs : List (Nat × Int)} (h : srtB xs = false) : ¬ Srt xs := by
  intro hs
  rw [srtB, decide_eq_false_iff_not] at h
  exact h (fun i hi h0 => srt_get hs i hi h0)
theorem fitB_nq {ms cs : List (Nat × Int)} (h : ¬ FitQ ms cs) : fitB ms cs = false := fitB_no (fun c => h (fitP_iff.1 c))
theorem mid_ne {ms : List (Nat × Int)} {p : Nat} : (!(mid ms p p).isEmpty) = true ↔ ∃ x ∈ ms, x.1 = p := by
  constructor
  · intro h
    cases hm : mid ms p p with
    | nil => rw [hm] at h; simp at h
    | cons x l =>
      have : x ∈ mid ms p p := by rw [hm]; simp
      obtain ⟨h1, h2, h3⟩ := mid_mem.1 this
      exact ⟨x, h1, by omega⟩
  · rintro ⟨x, hx, e⟩
    have : x ∈ mid ms p p := mid_mem.2 ⟨hx, by omega, by omega⟩
    cases hm : mid ms p p with
    | nil => rw [hm] at this; simp at this
    | cons y l => simp
set_option maxHeartbeats 4000000 in
set_option maxRecDepth 100000 in
theorem fit9 (vm vc : Value) (ms cs : List (Nat × Int)) (w : World) (hm : Sl .i64 w vm ms) (hc : Sl .u64 w vc cs) (hrc : ∀ y ∈ cs, y.1 < 18446744073709551616) :
    Calls Try.prog 9 #[.agg #[vm, vc]] w fun e w' => e = .returned (.bool (fitB ms cs)) ∧ Below w.heap.size w w' := by
  obtain ⟨W, hW, hb, hsz, c0, c1, _, _⟩ := box2 w vm vc 25
  obtain ⟨am, pm, rfl, x1, x2, x4⟩ : ∃ ao cap, vm = .slice ao ms.length cap ∧ ms.length ≤ cap ∧ cap ≤ 9223372036854775807 ∧ ∀ i (h : i < ms.length), ∃ b o, ao = some ⟨b, o, none⟩ ∧ W.cell? ⟨b, o + i * 2, none⟩ = some (.int .u64 (ms[i].1 : Int)) ∧ W.cell? ⟨b, o + i * 2 + 1, none⟩ = some (.int .i64 ms[i].2) := by
    obtain ⟨ao, cap, e, q1, q2, _, q4⟩ := hm.keep hb
    exact ⟨ao, cap, e, q1, q2, q4⟩
  obtain ⟨ac, pc, rfl, z1, z2, z4⟩ : ∃ ao cap, vc = .slice ao cs.length cap ∧ cs.length ≤ cap ∧ cap ≤ 9223372036854775807 ∧ ∀ i (h : i < cs.length), ∃ b o, ao = some ⟨b, o, none⟩ ∧ W.cell? ⟨b, o + i * 2, none⟩ = some (.int .u64 (cs[i].1 : Int)) ∧ W.cell? ⟨b, o + i * 2 + 1, none⟩ = some (.int .u64 cs[i].2) := by
    obtain ⟨ao, cap, e, q1, q2, _, q4⟩ := hc.keep hb
    exact ⟨ao, cap, e, q1, q2, q4⟩
  have HXM : Hid (∀ i (h : i < ms.length), ∃ b o, am = some ⟨b, o, none⟩ ∧ W.cell? ⟨b, o + i * 2, none⟩ = some (.int .u64 (ms[i].1 : Int)) ∧ W.cell? ⟨b, o + i * 2 + 1, none⟩ = some (.int .i64 ms[i].2)) := x4
  have HXC : Hid (∀ i (h : i < cs.length), ∃ b o, ac = some ⟨b, o, none⟩ ∧ W.cell? ⟨b, o + i * 2, none⟩ = some (.int .u64 (cs[i].1 : Int)) ∧ W.cell? ⟨b, o + i * 2 + 1, none⟩ = some (.int .u64 cs[i].2)) := z4
  have K27 : Hid (∀ w', Below W.heap.size W w' → Calls Try.prog 27 #[.slice am ms.length pm, .func (.func 28) #[] #[]] w' fun e w'' => e = .returned (.bool (srtB ms)) ∧ Below w'.heap.size w' w'') := fun w' h => rise27 _ ms w' (hm.keep (below_tr hb h))
  have K29 : Hid (∀ w', Below W.heap.size W w' → Calls Try.prog 29 #[.slice ac cs.length pc, .func (.func 30) #[] #[]] w' fun e w'' => e = .returned (.bool (srtB cs)) ∧ Below w'.heap.size w' w'') := fun w' h => rise29 _ cs w' (hc.keep (below_tr hb h))
  have HRC : Hid (∀ y ∈ cs, y.1 < 18446744073709551616) := hrc
  have HSM : Hid (Sl .i64 w (.slice am ms.length pm) ms) := hm
  obtain ⟨F, hF⟩ : ∃ F, F = fitB ms cs := ⟨_, rfl⟩
  rw [← hF]
  have HF : Hid (F = fitB ms cs) := hF
  clear x4 z4 hm hc hrc hF
  by_cases h64 : 64 < ms.length
  · have HR : Hid (F = false) := by show _ = _; rw [HF.out]; exact fitB_nq (fun q => by have := q.1; omega)
    go_enter Try.func9, Try.ntmps9
    go_wp2
    go_ret
    exact ⟨by rw [HR.out]; rfl, hb⟩
  by_cases h65 : 65536 < cs.length
  · have HR : Hid (F = false) := by show _ = _; rw [HF.out]; exact fitB_nq (fun q => by have := q.2.1; omega)
    go_enter Try.func9, Try.ntmps9
    go_wp2
    go_ret
    exact ⟨by rw [HR.out]; rfl, hb⟩
  cases hsm : srtB ms with
  | false =>
    have HR : Hid (F = false) := by show _ = _; rw [HF.out]; exact fitB_nq (fun q => srtB_no hsm q.2.2.1)
    rw [hsm] at K27
    clear hsm
    go_enter Try.func9, Try.ntmps9
    go_wp2_with fail
    refine (K27.out W (Below.refl _ _)).mono ?_
    rintro e w1 ⟨rfl, hb1⟩
    go_wp2
    go_ret
    exact ⟨by rw [HR.out]; rfl, below_tr hb hb1⟩
  | true =>
  cases hsc : srtB cs with
  | false =>
    have HR : Hid (F = false) := by show _ = _; rw [HF.out]; exact fitB_nq (fun q => srtB_no hsc q.2.2.2.1)
    rw [hsm] at K27
    rw [hsc] at K29
    clear hsm hsc
    go_enter Try.func9, Try.ntmps9
    go_wp2_with fail
    refine (K27.out W (Below.refl _ _)).mono ?_
    rintro e w1 ⟨rfl, hb1⟩
    have e1 := keep_cell hb1 c1
    go_wp2_with fail
    refine (K29.out w1 hb1).mono ?_
    rintro e w2 ⟨rfl, hb2⟩
    go_wp2
    go_ret
    exact ⟨by rw [HR.out]; rfl, below_tr (below_tr hb hb1) hb2⟩
  | true =>
  have HSS : Hid (Srt ms ∧ Srt cs ∧ ms.length ≤ 64 ∧ cs.length ≤ 65536) := ⟨srtB_yes hsm, srtB_yes hsc, by omega, by omega⟩
  rw [hsm] at K27
  rw [hsc] at K29
  have K32 : Hid (∀ (pg : Nat) w', Below W.heap.size W w' → Calls Try.prog 32 #[.slice am ms.length pm, .func (.func 28) #[] #[], .int .u64 (pg : Int)] w' fun e w'' => e = .returned (.tuple #[.agg #[.int .u64 (((mid ms pg pg).headD (0, 0)).1 : Int), .int .i64 ((mid ms pg pg).headD (0, 0)).2], .bool (!(mid ms pg pg).isEmpty)]) ∧ Below w'.heap.size w' w'') := fun pg w' h => found32s _ ms pg w' (HSM.out.keep (below_tr hb h)) HSS.out.1 (by have := HSS.out.2.2.1; omega)
  clear hsm hsc
  go_enter Try.func9, Try.ntmps9
  go_wp2_with fail
  refine (K27.out W (Below.refl _ _)).mono ?_
  rintro e w1 ⟨rfl, hb1⟩
  have e0 := keep_cell hb1 c0
  have e1 := keep_cell hb1 c1
  go_wp2_with fail
  refine (K29.out w1 hb1).mono ?_
  rintro e w2 ⟨rfl, hb2⟩
  have hbW := below_tr hb1 hb2
  have e0 := keep_cell hb2 e0
  have e1 := keep_cell hb2 e1
  clear hb1 hb2 K27 K29
  go_wp2
  go_loopw [34] (fun i wr => ∃ k : Nat, k ≤ ms.length ∧ i = .int .i64 (k : Int) ∧ (∀ j (h : j < ms.length), j < k → ms[j].1 < 1125899906842624 ∧ 0 ≤ ms[j].2 ∧ ms[j].2 ≤ 7) ∧ Below W.heap.size W wr) (fun i _ => ms.length - (intOf i).toNat)
  case atStart => exact ⟨0, Nat.zero_le _, rfl, fun j h h0 => by omega, hbW⟩
  case round =>
    clear hbW e0 e1
    obtain ⟨k, hk, rfl, hno, hbr⟩ := hrel
    have HN : Hid (∀ j (h : j < ms.length), j < k → ms[j].1 < 1125899906842624 ∧ 0 ≤ ms[j].2 ∧ ms[j].2 ≤ 7) := hno
    clear hno
    have e0 := keep_cell hbr c0
    have e1 := keep_cell hbr c1
    by_cases hkl : k < ms.length
    · obtain ⟨b, o, rfl, d0, d1⟩ := HXM.out k hkl
      have d0 := keep_cell hbr d0
      have d1 := keep_cell hbr d1
      obtain ⟨p, hp⟩ : ∃ p, p = ms[k].1 := ⟨_, rfl⟩
      obtain ⟨r, hr⟩ : ∃ r, r = ms[k].2 := ⟨_, rfl⟩
      have HX : Hid (p = ms[k].1 ∧ r = ms[k].2) := ⟨hp, hr⟩
      rw [← hp] at d0
      rw [← hr] at d1
      clear hp hr
      obtain ⟨W2, hW2, hb2, _, q0, q1, _, _⟩ := box2 wr (.int .u64 (p : Int)) (.int .i64 r) 54
      have hbr2 := below_tr hbr hb2
      by_cases a1 : 1125899906842624 ≤ (p : Int)
      · have HR : Hid (F = false) := by
          show _ = _; rw [HF.out]
          exact fitB_nq (fun q => by have := (q.2.2.2.2.1 _ (List.getElem_mem hkl)).1; rw [← HX.out.1] at this; omega)
        go_wp2
        go_ret
        exact ⟨by rw [HR.out]; rfl, below_tr hb hbr2⟩
      · have K31 := isProt31 r W2
        have HA : Hid (¬ 1125899906842624 ≤ (p : Int)) := a1
        cases hpr : protOk r with
        | false =>
          have HR : Hid (F = false) := by
            show _ = _; rw [HF.out]
            refine fitB_nq (fun q => ?_)
            have := (q.2.2.2.2.1 _ (List.getElem_mem hkl)).2
            rw [← HX.out.2] at this
            rw [protOk, decide_eq_true this] at hpr
            cases hpr
          rw [hpr] at K31
          clear hpr
          go_wp2_with fail
          refine K31.mono ?_
          rintro e w3 ⟨rfl, h3⟩
          subst h3
          go_wp2
          go_ret
          exact ⟨by rw [HR.out]; rfl, below_tr hb hbr2⟩
        | true =>
          rw [hpr] at K31
          have HK : Hid (∀ j (h : j < ms.length), j < k + 1 → ms[j].1 < 1125899906842624 ∧ 0 ≤ ms[j].2 ∧ ms[j].2 ≤ 7) := fun j h hj => by
            by_cases e : j = k
            · subst e
              rw [← HX.out.1, ← HX.out.2]
              have := HA.out
              have h2 : 0 ≤ r ∧ r ≤ 7 := by simpa [protOk] using hpr
              exact ⟨by omega, h2⟩
            · exact HN.out j h (by omega)
          clear hpr
          go_wp2_with fail
          refine K31.mono ?_
          rintro e w3 ⟨rfl, h3⟩
          subst h3
          go_wp2
          go_roundw
          case rel => exact ⟨k + 1, by omega, by go_num, HK.out, hbr2⟩
          case measure => simp [intOf]; omega
    · obtain rfl : k = ms.length := by omega
      have HMS : Hid (∀ x ∈ ms, x.1 < 1125899906842624 ∧ 0 ≤ x.2 ∧ x.2 ≤ 7) := fun x hx => by
        obtain ⟨i, hi, rfl⟩ := List.getElem_of_mem hx
        exact HN.out i hi hi
      clear HN
      go_wp2
      go_loopw [51] (fun i wr => ∃ k : Nat, k ≤ cs.length ∧ i = .int .i64 (k : Int) ∧ (∀ j (h : j < cs.length), j < k → cs[j].1 % 8 = 0 ∧ cs[j].2 ≠ 0 ∧ ∃ x ∈ ms, x.1 = cs[j].1 / 16384) ∧ Below W.heap.size W wr) (fun i _ => cs.length - (intOf i).toNat)
      case atStart => exact ⟨0, Nat.zero_le _, rfl, fun j h h0 => by omega, hbr⟩
      case round =>
        clear e0 e1 hbr hk
        obtain ⟨k, hk, rfl, hno, hbr⟩ := hrel
        have HN : Hid (∀ j (h : j < cs.length), j < k → cs[j].1 % 8 = 0 ∧ cs[j].2 ≠ 0 ∧ ∃ x ∈ ms, x.1 = cs[j].1 / 16384) := hno
        clear hno
        have e0 := keep_cell hbr c0
        have e1 := keep_cell hbr c1
        by_cases hkl2 : k < cs.length
        · obtain ⟨b, o, rfl, d0, d1⟩ := HXC.out k hkl2
          have d0 := keep_cell hbr d0
          have d1 := keep_cell hbr d1
          have hpl := HRC.out _ (List.getElem_mem hkl2)
          obtain ⟨p, hp⟩ : ∃ p, p = cs[k].1 := ⟨_, rfl⟩
          obtain ⟨r, hr⟩ : ∃ r, r = cs[k].2 := ⟨_, rfl⟩
          have HX : Hid (p = cs[k].1 ∧ r = cs[k].2) := ⟨hp, hr⟩
          rw [← hp] at d0 hpl
          rw [← hr] at d1
          clear hp hr
          obtain ⟨W2, hW2, hb2, _, q0, q1, _, _⟩ := box2 wr (.int .u64 (p : Int)) (.int .u64 r) 58
          have hbr2 := below_tr hbr hb2
          have e0 := keep_cell hb2 e0
          obtain ⟨pg, hpg⟩ : ∃ t, t = p / 16384 := ⟨_, rfl⟩
          obtain ⟨m8, hm8⟩ : ∃ t, t = p % 8 := ⟨_, rfl⟩
          have y1 : IntKind.u64.wrap ((p : Int) / 16384) = (pg : Int) := by rw [IntKind.wrap_u64]; omega
          have y2 : ((p : Int)).tmod 8 = (m8 : Int) := by rw [Int.tmod_eq_emod_of_nonneg (by omega)]; omega
          have K := K32.out pg W2 hbr2
          have HME := mid_ne (ms := ms) (p := pg)
          have HME : Hid ((!(mid ms pg pg).isEmpty) = true ↔ ∃ x ∈ ms, x.1 = pg) := HME
          generalize (!(mid ms pg pg).isEmpty) = bb at K HME
          generalize ((mid ms pg pg).headD (0, 0)).1 = f1 at K
          generalize ((mid ms pg pg).headD (0, 0)).2 = f2 at K
          have HPM : Hid (pg = p / 16384 ∧ m8 = p % 8) := ⟨hpg, hm8⟩
          clear hpg hm8 hpl
          cases bb with
          | false =>
            have HR : Hid (F = false) := by
              show _ = _; rw [HF.out]
              refine fitB_nq (fun q => ?_)
              obtain ⟨_, _, x, hx, ex⟩ := q.2.2.2.2.2 _ (List.getElem_mem hkl2)
              rw [← HX.out.1, ← HPM.out.1] at ex
              have := HME.out.2 ⟨x, hx, ex⟩
              cases this
            go_wp2_with fail
            refine K.mono ?_
            rintro e w3 ⟨rfl, hb3⟩
            have q0 := keep_cell hb3 q0
            have q1 := keep_cell hb3 q1
            go_wp2
            go_ret
            exact ⟨by rw [HR.out]; rfl, below_alloc (below_tr (below_tr hb hbr2) hb3) _⟩
          | true =>
            by_cases a1 : m8 = 0
            case neg =>
              have HR : Hid (F = false) := by
                show _ = _; rw [HF.out]
                refine fitB_nq (fun q => ?_)
                have := (q.2.2.2.2.2 _ (List.getElem_mem hkl2)).1
                rw [← HX.out.1] at this
                have := HPM.out.2
                omega
              have a1' : ((m8 : Int) != 0) = true := by simp; omega
              clear a1
              go_wp2_with fail
              refine K.mono ?_
              rintro e w3 ⟨rfl, hb3⟩
              obtain ⟨W4, hW4, hb4, _, _, _, _, _⟩ := box2 w3 (.int .u64 (f1 : Int)) (.int .i64 f2) 54
              have q0 := keep_cell hb4 (keep_cell hb3 q0)
              have q1 := keep_cell hb4 (keep_cell hb3 q1)
              go_wp2
              go_ret
              exact ⟨by rw [HR.out]; rfl, below_tr (below_tr (below_tr hb hbr2) hb3) hb4⟩
            subst a1
            by_cases a2 : r = 0
            · have HR : Hid (F = false) := by
                show _ = _; rw [HF.out]
                refine fitB_nq (fun q => ?_)
                have := (q.2.2.2.2.2 _ (List.getElem_mem hkl2)).2.1
                rw [← HX.out.2] at this
                exact this a2
              have a2' : (r == 0) = true := by simpa using a2
              clear a2
              go_wp2_with fail
              refine K.mono ?_
              rintro e w3 ⟨rfl, hb3⟩
              obtain ⟨W4, hW4, hb4, _, _, _, _, _⟩ := box2 w3 (.int .u64 (f1 : Int)) (.int .i64 f2) 54
              have q0 := keep_cell hb4 (keep_cell hb3 q0)
              have q1 := keep_cell hb4 (keep_cell hb3 q1)
              go_wp2
              go_ret
              exact ⟨by rw [HR.out]; rfl, below_tr (below_tr (below_tr hb hbr2) hb3) hb4⟩
            · have HK : Hid (∀ j (h : j < cs.length), j < k + 1 → cs[j].1 % 8 = 0 ∧ cs[j].2 ≠ 0 ∧ ∃ x ∈ ms, x.1 = cs[j].1 / 16384) := fun j h hj => by
                by_cases e : j = k
                · subst e
                  rw [← HX.out.1, ← HX.out.2, ← HPM.out.1]
                  exact ⟨HPM.out.2.symm, a2, HME.out.1 rfl⟩
                · exact HN.out j h (by omega)
              have a2' : (r == 0) = false := by simpa using a2
              clear a2
              go_wp2_with fail
              refine K.mono ?_
              rintro e w3 ⟨rfl, hb3⟩
              obtain ⟨W4, hW4, hb4, _, _, _, _, _⟩ := box2 w3 (.int .u64 (f1 : Int)) (.int .i64 f2) 54
              have q0 := keep_cell hb4 (keep_cell hb3 q0)
              have q1 := keep_cell hb4 (keep_cell hb3 q1)
              have hbx := below_tr (below_tr hbr2 hb3) hb4
              go_wp2
              go_roundw
              case rel => exact ⟨k + 1, by omega, by go_num, HK.out, hbx⟩
              case measure => simp [intOf]; omega
        · obtain rfl : k = cs.length := by omega
          have HR : Hid (F = true) := by
            show _ = _; rw [HF.out]
            refine fitB_q ⟨HSS.out.2.2.1, HSS.out.2.2.2, HSS.out.1, HSS.out.2.1, HMS.out, fun c hc => ?_⟩
            obtain ⟨i, hi, rfl⟩ := List.getElem_of_mem hc
            exact HN.out i hi hi
          go_wp2
          go_ret
          exact ⟨by rw [HR.out]; rfl, below_tr hb hbr⟩
end Go.Proofs.Ytolmcbnammhjjaa
