/- What is proved here: GmemBack: its walk. -/
import Derived.Test.YtdhjmghfiodifaaGpt
import Derived.Test.YtdhjmghfiodifaaGby
import Derived.Test.YtdhjmghfiodifaaGagp
import Derived.Test.YtdhjmghfiodifaaBackPlain
import Derived.Test.YtdhjmghfiodifaaGdoc
import Derived.Test.YtdhjmghfiodifaaEach
import Derived.Laws.StructEq
import Derived.LoopTactic
import Derived.Deep.RegionHeld3
namespace Go.Proofs.Ytdhjmghfiodifaa
open Go.RowKit
set_option linter.unusedVariables false
set_option linter.unusedSimpArgs false
set_option maxRecDepth 100000
set_option maxHeartbeats 16000000 in
theorem back_walk (vm vc vp : Value) (ms cs ps : List (Nat × Int)) (bs a : Nat) (s : ByteArray) (other : Nat) (w : World) (hsl : SlG w vm vc vp ms cs ps) (hrc : ∀ y ∈ cs, y.1 < 18446744073709551616) (hw : Words cs) (hbs : bs < 18446744073709551616) (ha : a < 4294967296) (hss : s.size < 9223372036854775808) (hot : other < 18446744073709551616) :
    Calls Try.prog 5 #[.agg #[vm, vc, .int .u64 (bs : Int), vp], .int .u32 (a : Int), .string s, .int .u64 (other : Int)] w fun e w' => e = .returned (.bool true) ∧ Below w.heap.size w w' := by
  obtain ⟨am, pm, rfl, _⟩ := id hsl.1
  obtain ⟨ac, pc, rfl, _⟩ := id hsl.2.1
  obtain ⟨ap, pp, rfl, _⟩ := id hsl.2.2
  obtain ⟨nm, hnm⟩ : ∃ z, z = ms.length := ⟨_, rfl⟩
  obtain ⟨nc, hnc⟩ : ∃ z, z = cs.length := ⟨_, rfl⟩
  obtain ⟨np, hnp⟩ : ∃ z, z = ps.length := ⟨_, rfl⟩
  rw [← hnm, ← hnc, ← hnp] at hsl ⊢
  have HNP : Hid (np = ps.length) := hnp
  clear hnm hnc hnp
  obtain ⟨nG, hnG⟩ : ∃ z, w.heap.size = z := ⟨_, rfl⟩
  obtain ⟨W, hW⟩ : ∃ z, w.alloc (.cells #[.slice am nm pm, .slice ac nc pc, .int .u64 (bs : Int), .slice ap np pp] 29) = z := ⟨_, rfl⟩
  have D0 : B4 W nG 29 (.slice am nm pm) (.slice ac nc pc) (.int .u64 (bs : Int)) (.slice ap np pp) := by rw [← hW, ← hnG]; exact B4.new w 29 _ _ _ _
  have hb : Below w.heap.size w W := by rw [← hW]; exact (Below.refl _ _).alloc (Nat.le_refl _) _
  have K8 := gfew8 _ _ _ ms cs ps bs W (hsl.keep hb) hrc hbs
  obtain ⟨c0, c1, c2, c3⟩ := D0.cells
  cases hfw : fewB ms cs ps bs with
  | false =>
    rw [hfw] at K8
    have HB : Hid (Below w.heap.size w W) := hb
    clear hsl hb hfw
    go_enter Try.func5, Try.ntmps5
    go_wp2_with fail
    refine K8.mono ?_
    rintro e w1 ⟨rfl, hb1⟩
    go_wp2_with fail
    refine (awake9 w1).mono ?_
    rintro e wz ⟨rfl, hbz⟩
    go_wp2
    go_ret
    exact ⟨rfl, below_tr HB.out (below_tr hb1 hbz)⟩
  | true =>
  rw [hfw] at K8
  by_cases hlen : 300 < s.size
  · have HB : Hid (Below w.heap.size w W) := hb
    have hl3 : (300 : Int) < (s.size : Int) := by omega
    clear hsl hb hfw
    go_enter Try.func5, Try.ntmps5
    go_wp2_with fail
    refine K8.mono ?_
    rintro e w1 ⟨rfl, hb1⟩
    go_wp2_with fail
    refine (awake9 w1).mono ?_
    rintro e wz ⟨rfl, hbz⟩
    go_wp2
    go_ret
    exact ⟨rfl, below_tr HB.out (below_tr hb1 hbz)⟩
  have hl3 : (s.size : Int) ≤ 300 := by omega
  have hfq : FitG ms cs ps bs := by
    unfold fewB at hfw
    rw [Bool.and_eq_true] at hfw
    exact of_fitGB hfw.2
  have hnc1 : cs.length ≤ 100 := by
    unfold fewB at hfw
    rw [Bool.and_eq_true] at hfw
    have := hfw.1
    simp at this
    omega
  have hfew2 : cs.length + 2 * s.size ≤ 65534 := by omega
  obtain ⟨F1, F2, F3, F4⟩ := put_fit (asked := 2) hfq hw hrc hfew2 ha
  obtain ⟨cs', hcs'⟩ : ∃ z, z = chL cs ps bs a s 2 := ⟨_, rfl⟩
  obtain ⟨k1, hk1⟩ : ∃ z, z = (ffN ps a s.size 2).1 := ⟨_, rfl⟩
  obtain ⟨x1, hx1⟩ : ∃ z, z = (ffN ps a s.size 2).2 := ⟨_, rfl⟩
  rw [← hcs'] at F1 F2 F3 F4
  obtain ⟨j1, hj1⟩ : ∃ z, z = (ffN ps a s.size 1).1 := ⟨_, rfl⟩
  obtain ⟨y1, hy1⟩ : ∃ z, z = (ffN ps a s.size 1).2 := ⟨_, rfl⟩
  obtain ⟨S1, hS1⟩ : ∃ z : ByteArray, z = ⟨(tdL ms cs' ps bs a s.size 1).toArray⟩ := ⟨_, rfl⟩
  have HG : Hid (∀ w', Below W.heap.size W w' → GdM w' (.slice am nm pm) (.slice ac nc pc) (.slice ap np pp) ms cs ps bs) := fun w' hb' => by
    have h := hsl.keep (below_tr hb hb')
    have l1 := hfq.fq.1
    have l2 := hfq.fq.2.1
    have l3 := hfq.lp
    exact ⟨h.1, h.2.1, h.2.2, hfq.fq.2.2.1, hfq.fq.2.2.2.1, hfq.sp, by omega, by omega, by omega, hw, hfq.le⟩
  have HS : Hid (∀ w', Below W.heap.size W w' → SlG w' (.slice am nm pm) (.slice ac nc pc) (.slice ap np pp) ms cs ps) := fun w' hb' => hsl.keep (below_tr hb hb')
  have K18 : Hid (∀ w', Below W.heap.size W w' → Calls Try.prog 18 #[.agg #[.slice am nm pm, .slice ac nc pc, .int .u64 (bs : Int), .slice ap np pp], .int .u32 (a : Int), .string s] w' fun e w'' => ∃ am' nm' pm' ac' nc' pc' ap' pp', e = .returned (.tuple #[.agg #[.slice am' nm' pm', .slice ac' nc' pc', .int .u64 (bs : Int), .slice ap' np pp'], .agg #[.int .i64 k1, .int .u64 (x1 : Int)]]) ∧ SlG w'' (.slice am' nm' pm') (.slice ac' nc' pc') (.slice ap' np pp') ms cs' ps ∧ Below w'.heap.size w' w'') := fun w' hb' => by
    refine (gput18 _ _ _ bs a s ms cs ps w' (HG.out w' hb') ha hss (by have := hfq.al; omega) (fun y hy => (hfq.fq.2.2.2.2.2 y hy).1) (by omega) (fun h => fit_host hfq ha (Or.inr rfl) h)).mono ?_
    rintro e w'' ⟨vm', vc', vp', rfl, ho, hbb⟩
    have hs2 := ho.sl
    obtain ⟨am', pm', rfl, _⟩ := id hs2.1
    obtain ⟨ac', pc', rfl, _⟩ := id hs2.2.1
    obtain ⟨ap', pp', rfl, _⟩ := id hs2.2.2
    refine ⟨am', ms.length, pm', ac', (chL cs ps bs a s 2).length, pc', ap', pp', ?_, ?_, hbb⟩
    · rw [hk1, hx1, HNP.out]
    · rw [HNP.out, hcs']; exact hs2
  have HT : Hid (k1 = 0 → j1 ≠ 1 ∧ (j1 = 0 → S1 = s) ∧ (∀ p, ¬ (bs + a ≤ p ∧ p < bs + a + s.size) → peekN cs' p = peekN cs p)) := fun h0 => by
    rw [hk1] at h0
    refine ⟨by rw [hj1]; exact ffN_kind h0, fun h1 => ?_, fun p hp => by rw [hcs']; exact put_else hfq hw hrc hfew2 ha h0 p hp⟩
    rw [hj1] at h1
    rw [hS1, hcs', put_told hfq hw hrc hfew2 ha h0 h1]
  have HN : Hid (k1 ≠ 0 → cs' = cs) := fun h0 => by
    rw [hk1] at h0
    rw [hcs', chL, if_neg h0]
  have HF : Hid (FitG ms cs' ps bs ∧ Words cs' ∧ (∀ y ∈ cs', y.1 < 18446744073709551616) ∧ Words cs) := ⟨F1, F2, F3, hw⟩
  have HB : Hid (Below w.heap.size w W) := hb
  have hbsl := hfq.le
  have HQ : Hid (FitG ms cs ps bs) := hfq
  have hpl : np ≤ 256 := by rw [HNP.out]; exact hfq.lp
  have HY1 : Hid (∀ w' am' nm' pm' ac' nc' pc' ap' pp', SlG w' (.slice am' nm' pm') (.slice ac' nc' pc') (.slice ap' np pp') ms cs' ps → Calls Try.prog 10 #[.agg #[.slice am' nm' pm', .slice ac' nc' pc', .int .u64 (bs : Int), .slice ap' np pp'], .int .u32 (a : Int), .int .u32 (s.size : Int)] w' fun e w'' => e = .returned (.tuple #[.string S1, .agg #[.int .i64 j1, .int .u64 (y1 : Int)]]) ∧ Below w'.heap.size w' w'') := fun w' am' nm' pm' ac' nc' pc' ap' pp' hs => by
    rw [hS1, hj1, hy1]
    have l1 := F1.fq.1
    have l2 := F1.fq.2.1
    have l3 := F1.lp
    exact gbytes10 _ _ _ bs a s.size ms cs' ps w' ⟨hs.1, hs.2.1, hs.2.2, F1.fq.2.2.1, F1.fq.2.2.2.1, F1.sp, by omega, by omega, by omega, F2, F1.le⟩ ha (by omega)
  clear hS1 hj1 hy1 hk1 hx1 hcs' F1 F2 F3 F4 hfew2 hnc1 hfq hfw hlen hsl hb hrc hw HG
  go_enter Try.func5, Try.ntmps5
  go_wp2_with fail
  refine K8.mono ?_
  rintro e w1 ⟨rfl, hb1⟩
  clear K8
  have D0 := D0.keep hb1
  obtain ⟨c0, c1, c2, c3⟩ := D0.cells
  have R1 := K18.out w1 hb1
  go_wp2_with fail
  refine R1.mono ?_
  rintro e w2 ⟨am', nm', pm', ac', nc', pc', ap', pp', rfl, hs2, hb2⟩
  clear R1 K18
  obtain ⟨Wa, Wb, Wc, W3, nF, hWa, hWb, hnF, hWc, hW3, ⟨qa1, qa2, qa3, qa4, qf1, qf2, qf3, qf4⟩, ⟨qb1, qb2, qb3, qb4⟩, D1, G1, bb2⟩ := newGF w2 (.slice am' nm' pm') (.slice ac' nc' pc') (.int .u64 (bs : Int)) (.slice ap' np pp') (.int .i64 k1) (.int .u64 (x1 : Int))
  obtain ⟨nB, hnB⟩ : ∃ z, w2.heap.size = z := ⟨_, rfl⟩
  have hs3 := hs2.keep bb2
  have D0 := (D0.keep hb2).keep bb2
  have t3 := below_tr hb1 (below_tr hb2 bb2)
  rw [hnB] at D1 hWc qa1 qa2 qa3 qa4 qf1 qf2 qf3 qf4
  obtain ⟨c0, c1, c2, c3⟩ := D0.cells
  obtain ⟨u0, u1, u2, u3⟩ := D1.cells
  have g1 := G1.c0
  clear hb1 hb2 bb2 hs2
  by_cases hz : k1 = 0
  case neg =>
    have hz1 : (k1 != 0) = true := by simp [hz]
    have K24 := rsame13 _ _ _ _ _ _ ms cs' ps ms cs ps bs bs W3 hs3 (HS.out W3 t3)
    rw [HN.out hz] at K24
    rw [show sameG ms cs ps bs ms cs ps bs = true from decide_eq_true ⟨rfl, rfl, rfl, rfl⟩] at K24
    clear HT HN
    go_wp2_with fail
    refine K24.mono ?_
    rintro e w4 ⟨rfl, hb4⟩
    go_wp2_with fail
    refine (awake9 _).mono ?_
    rintro e wz ⟨rfl, hbz⟩
    go_wp2
    go_ret
    exact ⟨rfl, below_tr HB.out (below_tr t3 (below_tr hb4 hbz))⟩
  subst hz
  obtain ⟨hj, hS, hE⟩ := HT.out rfl
  have HS1 : Hid (j1 = 0 → S1 = s) := hS
  have HE : Hid (∀ p, ¬ (bs + a ≤ p ∧ p < bs + a + s.size) → peekN cs' p = peekN cs p) := hE
  clear HT HN hS hE
  have hcv : IntKind.u32.wrap (s.size : Int) = (s.size : Int) := by rw [IntKind.wrap_u32]; omega
  have R10 := HY1.out W3 _ _ _ _ _ _ _ _ hs3
  clear HY1
  go_wp2_with fail
  refine R10.mono ?_
  rintro e w4 ⟨rfl, hb4⟩
  clear R10
  obtain ⟨Wa5, W5, hWa5, hW5, ⟨qa5, qb5, qc5, qd5⟩, G5, bb5⟩ := newF w4 (.int .i64 j1) (.int .u64 (y1 : Int))
  have D0 := (D0.keep hb4).keep bb5
  have D1 := (D1.keep hb4).keep bb5
  have hs5 := (hs3.keep hb4).keep bb5
  have g5 := G5.c0
  have t5 := below_tr t3 (below_tr hb4 bb5)
  clear hb4 bb5 hs3
  obtain ⟨c0, c1, c2, c3⟩ := D0.cells
  obtain ⟨u0, u1, u2, u3⟩ := D1.cells
  have hj2 : (j1 == 1) = false := by simp [hj]
  have hj3 : (j1 = 1) = False := by simp [hj]
  have HX : Hid (∀ wr, Below W5.heap.size W5 wr → ∀ i (h : i < np), ∃ b o b' o' p r, ap = some ⟨b, o, none⟩ ∧ ap' = some ⟨b', o', none⟩ ∧ wr.cell? ⟨b, o + i * 2, none⟩ = some (.int .u32 ((p : Nat) : Int)) ∧ wr.cell? ⟨b, o + i * 2 + 1, none⟩ = some (.int .i64 r) ∧ wr.cell? ⟨b', o' + i * 2, none⟩ = some (.int .u32 ((p : Nat) : Int)) ∧ wr.cell? ⟨b', o' + i * 2 + 1, none⟩ = some (.int .i64 r)) := fun wr hbr i hi => by
    rw [HNP.out] at hi
    obtain ⟨ao, cap, e, _, _, _, g⟩ := (HS.out W5 t5).2.2
    obtain ⟨ao', cap', e', _, _, _, g'⟩ := hs5.2.2
    cases e
    cases e'
    obtain ⟨b, o, e, x, y⟩ := g i hi
    obtain ⟨b', o', e', x', y'⟩ := g' i hi
    exact ⟨b, o, b', o', _, _, e, e', keep_cell hbr x, keep_cell hbr y, keep_cell hbr x', keep_cell hbr y'⟩
  have HS5 : Hid (SlG W5 (.slice am' nm' pm') (.slice ac' nc' pc') (.slice ap' np pp') ms cs' ps) := hs5
  clear hs5
  have KEYJ : j1 = 0 ∨ ¬ j1 = 0 := Decidable.em _
  rcases KEYJ with hj0 | hj0
  · subst hj0
    have hSe : s = S1 := (HS1.out rfl).symm
    subst hSe
    go_wp2
    go_loopw [81] (fun i wr => ∃ k : Nat, k ≤ np ∧ i = .int .i64 (k : Int) ∧ Below W5.heap.size W5 wr) (fun i _ => np - (intOf i).toNat)
    case atStart => exact ⟨0, Nat.zero_le _, rfl, Below.refl _ _⟩
    case round =>
      obtain ⟨k, hk, rfl, hbr⟩ := hrel
      have D0 := D0.keep hbr
      have D1 := D1.keep hbr
      obtain ⟨c0, c1, c2, c3⟩ := D0.cells
      obtain ⟨u0, u1, u2, u3⟩ := D1.cells
      by_cases hkl : k < np
      · obtain ⟨b, o, b', o', p, r, rfl, rfl, d0, d1, d0', d1'⟩ := HX.out wr hbr k hkl
        have hbb : Below W5.heap.size W5 wr := hbr
        clear HS HS5 HX HE HS1 HQ HF
        go_wp2
        go_region_held3 (fun w' => Below W5.heap.size W5 w' ∧ w'.cell? ⟨nB, 3, none⟩ = some (.slice (some ⟨b', o', none⟩) np pp') ∧ w'.cell? ⟨nG, 3, none⟩ = some (.slice (some ⟨b, o, none⟩) np pp) ∧ w'.cell? ⟨b, o + k * 2, none⟩ = some (.int .u32 (p : Int)) ∧ w'.cell? ⟨b, o + k * 2 + 1, none⟩ = some (.int .i64 r) ∧ w'.cell? ⟨b', o' + k * 2, none⟩ = some (.int .u32 (p : Int)) ∧ w'.cell? ⟨b', o' + k * 2 + 1, none⟩ = some (.int .i64 r)) (refine ⟨?_, ?_, ?_, ?_, ?_, ?_, ?_⟩ <;> first | (with_reducible refine Free.cell ?_; (repeat (first | with_reducible assumption | with_reducible refine Free.drew ?_ | with_reducible refine Free.alloc ?_ _ | with_reducible refine Free.set ?_ _ _ | with_reducible refine Free.keep (by with_reducible assumption) ?_)); done) | (with_reducible refine Free.frozen ?_; (repeat (first | with_reducible assumption | with_reducible refine Free.drew ?_ | with_reducible refine Free.alloc ?_ _ | with_reducible refine Free.set ?_ _ _ | with_reducible refine Free.keep (by with_reducible assumption) ?_)); done) | ((repeat (first | with_reducible assumption | with_reducible exact Below.refl _ _ | with_reducible refine Below.drew ?_ | with_reducible refine below_alloc ?_ _ | (with_reducible refine below_set ?_ ?_ _; rotate_left; focus (first | (simp; done) | (simp; omega))) | with_reducible refine below_tr ?_ (by with_reducible assumption))); done) | ((repeat (first | with_reducible assumption | with_reducible refine cell_drew ?_ | (with_reducible refine cell_newA _ _ _ _ _ _ ?_ rfl; (simp [*]; done)) | with_reducible refine cell_old ?_ _ | (with_reducible refine cell_far ?_ ?_ _; rotate_left; focus (first | (simp; done) | (simp; omega))) | with_reducible refine keep_cell (by with_reducible assumption) ?_)); done)) (fail)
        all_goals go_wp2
        go_roundw
        case rel => exact ⟨k + 1, by omega, by go_num, (by (repeat (first | with_reducible assumption | with_reducible exact Below.refl _ _ | with_reducible refine Below.drew ?_ | with_reducible refine below_alloc ?_ _ | (with_reducible refine below_set ?_ ?_ _; rotate_left; focus (first | (simp; done) | (simp; omega))) | with_reducible refine below_tr ?_ (by with_reducible assumption))))⟩
        case measure => simp [intOf]; omega
      · have hkn : np = k := by omega
        subst hkn
        have t6 := below_tr t5 hbr
        have hs6 := HS5.out.keep hbr
        clear HX
        have K26 := rplace17 (.slice am nm pm) (.slice ac nc pc) (.slice ap np pp) bs a hbsl ha wr ⟨_, _, _, rfl⟩ ⟨_, _, _, rfl⟩ ⟨_, _, _, rfl⟩
        obtain ⟨at_, hat⟩ : ∃ z, z = bs + a := ⟨_, rfl⟩
        rw [← hat] at K26 HE
        have hats : at_ < 18446744073709551616 := by omega
        clear hat
        go_wp2_with fail
        refine K26.mono ?_
        rintro e W7 ⟨rfl, hb7⟩
        clear K26
        have tz := below_tr t6 hb7
        have c0 := keep_cell hb7 c0
        have c1 := keep_cell hb7 c1
        have c2 := keep_cell hb7 c2
        have c3 := keep_cell hb7 c3
        have u0 := keep_cell hb7 u0
        have u1 := keep_cell hb7 u1
        have u2 := keep_cell hb7 u2
        have u3 := keep_cell hb7 u3
        have hs7 := hs6.keep hb7
        have KF : Hid (∀ w', Below W7.heap.size W7 w' → Calls Try.prog 25 #[.agg #[.slice am' nm' pm', .slice ac' nc' pc', .int .u64 (bs : Int), .slice ap' np pp']] w' fun e w'' => e = .returned (.bool true) ∧ Below w'.heap.size w' w'') := fun w' hb' => by
          have h := rfit11 _ _ _ ms cs' ps bs w' (hs7.keep hb') HF.out.2.2.1 hbs
          rw [fitGB_yes HF.out.1] at h
          exact h
        obtain ⟨pk, hpk⟩ : ∃ z, z = peekN cs other := ⟨_, rfl⟩
        have KP : Hid (∀ w', Below W7.heap.size W7 w' → Calls Try.prog 27 #[.agg #[.slice am nm pm, .slice ac nc pc], .int .u64 (other : Int)] w' fun e w'' => e = .returned (.int .u8 (pk : Int)) ∧ Below w'.heap.size w' w'') := fun w' hb' => by
          rw [hpk]
          exact peek26 _ _ cs other w' ⟨_, _, _, rfl⟩ ((HS.out W7 tz).keep hb').2.1 HF.out.2.2.2 hot
        have KP' : Hid (¬ (at_ ≤ other ∧ other < at_ + s.size) → ∀ w', Below W7.heap.size W7 w' → Calls Try.prog 27 #[.agg #[.slice am' nm' pm', .slice ac' nc' pc'], .int .u64 (other : Int)] w' fun e w'' => e = .returned (.int .u8 (pk : Int)) ∧ Below w'.heap.size w' w'') := fun hno w' hb' => by
          rw [hpk, ← HE.out other hno]
          exact peek26 _ _ cs' other w' ⟨_, _, _, rfl⟩ (hs7.keep hb').2.1 HF.out.2.1 hot
        clear hpk hs6 hs7 HS HS5 HE HQ HF HS1
        go_wp2
        by_cases hge0 : at_ ≤ other
        · obtain ⟨dif, hdif⟩ : ∃ z, z = other - at_ := ⟨_, rfl⟩
          have hsub : IntKind.u64.wrap ((other : Int) - (at_ : Int)) = (dif : Int) := by rw [IntKind.wrap_u64]; omega
          have hsub2 : ((other : Int) - (at_ : Int)) % 18446744073709551616 = (dif : Int) := by omega
          have hcv : IntKind.u64.wrap (s.size : Int) = (s.size : Int) := by rw [IntKind.wrap_u64]; omega
          have hge : decide ((at_ : Int) ≤ (other : Int)) = true := by simp; omega
          have hgeP : (at_ ≤ other) = True := by simp; omega
          by_cases hlt0 : dif < s.size
          · have hlt : decide ((dif : Int) < (s.size : Int)) = true := by simp; omega
            have hltP : (dif < s.size) = True := by simp; omega
            clear hge0 hlt0 hdif KP KP'
            refine wp_region_slots (R := Ext) [⟨99, fun v _ => v = .int .u64 (other : Int), fun _ _ _ _ h => h⟩, ⟨100, fun v _ => v = .int .u64 (at_ : Int), fun _ _ _ _ h => h⟩, ⟨101, fun v _ => v = .bool true, fun _ _ _ _ h => h⟩, ⟨102, fun v _ => v = .bool true, fun _ _ _ _ h => h⟩, ⟨103, fun v _ => v = .int .u64 (other : Int), fun _ _ _ _ h => h⟩, ⟨104, fun v _ => v = .int .u64 (at_ : Int), fun _ _ _ _ h => h⟩, ⟨105, fun v _ => v = .int .u64 (dif : Int), fun _ _ _ _ h => h⟩, ⟨106, fun v _ => v = .string s, fun _ _ _ _ h => h⟩, ⟨107, fun v _ => v = .int .i64 (s.size : Int), fun _ _ _ _ h => h⟩, ⟨108, fun v _ => v = .int .u64 (s.size : Int), fun _ _ _ _ h => h⟩, ⟨109, fun v _ => v = .bool true, fun _ _ _ _ h => h⟩, ⟨110, fun v _ => v = .bool true, fun _ _ _ _ h => h⟩, ⟨111, fun v _ => v = .bool true, fun _ _ _ _ h => h⟩, ⟨112, fun v _ => v = undef, fun _ _ _ _ h => h⟩, ⟨113, fun v _ => v = undef, fun _ _ _ _ h => h⟩, ⟨114, fun v _ => v = undef, fun _ _ _ _ h => h⟩, ⟨115, fun v _ => v = undef, fun _ _ _ _ h => h⟩, ⟨116, fun v _ => v = undef, fun _ _ _ _ h => h⟩, ⟨117, fun v _ => v = undef, fun _ _ _ _ h => h⟩, ⟨118, fun v _ => v = undef, fun _ _ _ _ h => h⟩, ⟨119, fun v _ => v = undef, fun _ _ _ _ h => h⟩, ⟨120, fun v _ => v = undef, fun _ _ _ _ h => h⟩, ⟨121, fun v _ => v = .bool true, fun _ _ _ _ h => h⟩, ⟨122, fun v _ => v = .bool true, fun _ _ _ _ h => h⟩, ⟨123, fun v _ => v = .agg #[.slice am' nm' pm', .slice ac' nc' pc', .int .u64 (bs : Int), .slice ap' np pp'], fun _ _ _ _ h => h⟩, ⟨124, fun v _ => v = .bool true, fun _ _ _ _ h => h⟩, ⟨125, fun v _ => v = .bool true, fun _ _ _ _ h => h⟩, ⟨126, fun v _ => v = .bool true, fun _ _ _ _ h => h⟩, ⟨127, fun v _ => v = .bool true, fun _ _ _ _ h => h⟩, ⟨128, fun v _ => v = .bool true, fun _ _ _ _ h => h⟩, ⟨8, fun v _ => v = .bool true, fun _ _ _ _ h => h⟩] _ (by kernel_rfl) rfl (by kernel_rfl) (Below.drew (Below.refl _ _)) (fun _ _ _ h1 h2 => below_tr h1 h2) (fun QQ => ⟨?_, ?_, ?_, ?_, ?_, ?_, ?_, ?_, ?_, ?_, ?_, ?_, ?_, ?_, ?_, ?_, ?_, ?_, ?_, ?_, ?_, ?_, ?_, ?_, ?_, ?_, ?_, ?_, ?_, ?_, ?_, trivial⟩) (fun f wy hR hf => ?_)
            · intro A wx hR hout hdep K hK
              have h3 : A.tmps[3]?.getD undef = .int .u64 (other : Int) := hout 3 (by kernel_rfl)
              refine if_yes (by kernel_rfl) ?_
              simp [go_sem, h3, hsub, hsub2, hlt, hge, hcv, hgeP, hltP]
              exact hK.out _ _ (Below.refl _ _) rfl
            · intro A wx hR hout hdep K hK
              have h14 : A.tmps[14]?.getD undef = .int .u64 (at_ : Int) := hout 14 (by kernel_rfl)
              refine if_yes (by kernel_rfl) ?_
              simp [go_sem, h14, hsub, hsub2, hlt, hge, hcv, hgeP, hltP]
              exact hK.out _ _ (Below.refl _ _) rfl
            · intro A wx hR hout hdep K hK
              have h99 : A.tmps[99]?.getD undef = .int .u64 (other : Int) := hdep 99 (by kernel_rfl)
              have h100 : A.tmps[100]?.getD undef = .int .u64 (at_ : Int) := hdep 100 (by kernel_rfl)
              refine if_yes (by kernel_rfl) ?_
              simp [go_sem, h99, h100, hsub, hsub2, hlt, hge, hcv, hgeP, hltP]
              exact hK.out _ _ (Below.refl _ _) rfl
            · intro A wx hR hout hdep K hK
              have h101 : A.tmps[101]?.getD undef = .bool true := hdep 101 (by kernel_rfl)
              refine if_yes (by kernel_rfl) ?_
              simp [go_sem, h101, hsub, hsub2, hlt, hge, hcv, hgeP, hltP]
              exact hK.out _ _ (Below.refl _ _) rfl
            · intro A wx hR hout hdep K hK
              have h3 : A.tmps[3]?.getD undef = .int .u64 (other : Int) := hout 3 (by kernel_rfl)
              have h102 : A.tmps[102]?.getD undef = .bool true := hdep 102 (by kernel_rfl)
              refine if_yes ((wanted_is (j := 3) (b := true) (by kernel_rfl) (by kernel_rfl) h102).trans rfl) ?_
              simp [go_sem, h3, hsub, hsub2, hlt, hge, hcv, hgeP, hltP]
              exact hK.out _ _ (Below.refl _ _) rfl
            · intro A wx hR hout hdep K hK
              have h14 : A.tmps[14]?.getD undef = .int .u64 (at_ : Int) := hout 14 (by kernel_rfl)
              have h102 : A.tmps[102]?.getD undef = .bool true := hdep 102 (by kernel_rfl)
              refine if_yes ((wanted_is (j := 3) (b := true) (by kernel_rfl) (by kernel_rfl) h102).trans rfl) ?_
              simp [go_sem, h14, hsub, hsub2, hlt, hge, hcv, hgeP, hltP]
              exact hK.out _ _ (Below.refl _ _) rfl
            · intro A wx hR hout hdep K hK
              have h103 : A.tmps[103]?.getD undef = .int .u64 (other : Int) := hdep 103 (by kernel_rfl)
              have h104 : A.tmps[104]?.getD undef = .int .u64 (at_ : Int) := hdep 104 (by kernel_rfl)
              have h102 : A.tmps[102]?.getD undef = .bool true := hdep 102 (by kernel_rfl)
              refine if_yes ((wanted_is (j := 3) (b := true) (by kernel_rfl) (by kernel_rfl) h102).trans rfl) ?_
              simp [go_sem, h103, h104, hsub, hsub2, hlt, hge, hcv, hgeP, hltP]
              exact hK.out _ _ (Below.refl _ _) rfl
            · intro A wx hR hout hdep K hK
              have h2 : A.tmps[2]?.getD undef = .string s := hout 2 (by kernel_rfl)
              have h102 : A.tmps[102]?.getD undef = .bool true := hdep 102 (by kernel_rfl)
              refine if_yes ((wanted_is (j := 3) (b := true) (by kernel_rfl) (by kernel_rfl) h102).trans rfl) ?_
              simp [go_sem, h2, hsub, hsub2, hlt, hge, hcv, hgeP, hltP]
              exact hK.out _ _ (Below.refl _ _) rfl
            · intro A wx hR hout hdep K hK
              have h106 : A.tmps[106]?.getD undef = .string s := hdep 106 (by kernel_rfl)
              have h102 : A.tmps[102]?.getD undef = .bool true := hdep 102 (by kernel_rfl)
              refine if_yes ((wanted_is (j := 3) (b := true) (by kernel_rfl) (by kernel_rfl) h102).trans rfl) ?_
              simp [go_sem, h106, hsub, hsub2, hlt, hge, hcv, hgeP, hltP]
              exact hK.out _ _ (Below.refl _ _) rfl
            · intro A wx hR hout hdep K hK
              have h107 : A.tmps[107]?.getD undef = .int .i64 (s.size : Int) := hdep 107 (by kernel_rfl)
              have h102 : A.tmps[102]?.getD undef = .bool true := hdep 102 (by kernel_rfl)
              refine if_yes ((wanted_is (j := 3) (b := true) (by kernel_rfl) (by kernel_rfl) h102).trans rfl) ?_
              simp [go_sem, h107, hsub, hsub2, hlt, hge, hcv, hgeP, hltP]
              exact hK.out _ _ (Below.refl _ _) rfl
            · intro A wx hR hout hdep K hK
              have h105 : A.tmps[105]?.getD undef = .int .u64 (dif : Int) := hdep 105 (by kernel_rfl)
              have h108 : A.tmps[108]?.getD undef = .int .u64 (s.size : Int) := hdep 108 (by kernel_rfl)
              have h102 : A.tmps[102]?.getD undef = .bool true := hdep 102 (by kernel_rfl)
              refine if_yes ((wanted_is (j := 3) (b := true) (by kernel_rfl) (by kernel_rfl) h102).trans rfl) ?_
              simp [go_sem, h105, h108, hsub, hsub2, hlt, hge, hcv, hgeP, hltP]
              exact hK.out _ _ (Below.refl _ _) rfl
            · intro A wx hR hout hdep K hK
              have h102 : A.tmps[102]?.getD undef = .bool true := hdep 102 (by kernel_rfl)
              have h109 : A.tmps[109]?.getD undef = .bool true := hdep 109 (by kernel_rfl)
              refine if_yes (by kernel_rfl) ?_
              simp [go_sem, h102, h109, hsub, hsub2, hlt, hge, hcv, hgeP, hltP]
              exact hK.out _ _ (Below.refl _ _) rfl
            · intro A wx hR hout hdep K hK
              have h110 : A.tmps[110]?.getD undef = .bool true := hdep 110 (by kernel_rfl)
              refine if_yes (by kernel_rfl) ?_
              simp [go_sem, h110, hsub, hsub2, hlt, hge, hcv, hgeP, hltP]
              exact hK.out _ _ (Below.refl _ _) rfl
            · intro A wx hR hout hdep K hK
              have h9 : A.tmps[9]?.getD undef = .pointer (some ⟨nB, 0, none⟩) := hout 9 (by kernel_rfl)
              have h111 : A.tmps[111]?.getD undef = .bool true := hdep 111 (by kernel_rfl)
              refine if_not (by rw [wanted_is (j := 12) (b := false) (by kernel_rfl) (by kernel_rfl) h111]; decide) ?_
              exact hK.out _ _ (Below.refl _ _) rfl
            · intro A wx hR hout hdep K hK
              have h112 : A.tmps[112]?.getD undef = undef := hdep 112 (by kernel_rfl)
              have h111 : A.tmps[111]?.getD undef = .bool true := hdep 111 (by kernel_rfl)
              refine if_not (by rw [wanted_is (j := 12) (b := false) (by kernel_rfl) (by kernel_rfl) h111]; decide) ?_
              exact hK.out _ _ (Below.refl _ _) rfl
            · intro A wx hR hout hdep K hK
              have h3 : A.tmps[3]?.getD undef = .int .u64 (other : Int) := hout 3 (by kernel_rfl)
              have h111 : A.tmps[111]?.getD undef = .bool true := hdep 111 (by kernel_rfl)
              refine if_not (by rw [wanted_is (j := 12) (b := false) (by kernel_rfl) (by kernel_rfl) h111]; decide) ?_
              exact hK.out _ _ (Below.refl _ _) rfl
            · intro A wx hR hout hdep K hK
              have h113 : A.tmps[113]?.getD undef = undef := hdep 113 (by kernel_rfl)
              have h114 : A.tmps[114]?.getD undef = undef := hdep 114 (by kernel_rfl)
              have h111 : A.tmps[111]?.getD undef = .bool true := hdep 111 (by kernel_rfl)
              refine if_not (by rw [wanted_is (j := 12) (b := false) (by kernel_rfl) (by kernel_rfl) h111]; decide) ?_
              exact hK.out _ _ (Below.refl _ _) rfl
            · intro A wx hR hout hdep K hK
              have h4 : A.tmps[4]?.getD undef = .pointer (some ⟨nG, 0, none⟩) := hout 4 (by kernel_rfl)
              have h111 : A.tmps[111]?.getD undef = .bool true := hdep 111 (by kernel_rfl)
              refine if_not (by rw [wanted_is (j := 12) (b := false) (by kernel_rfl) (by kernel_rfl) h111]; decide) ?_
              exact hK.out _ _ (Below.refl _ _) rfl
            · intro A wx hR hout hdep K hK
              have h116 : A.tmps[116]?.getD undef = undef := hdep 116 (by kernel_rfl)
              have h111 : A.tmps[111]?.getD undef = .bool true := hdep 111 (by kernel_rfl)
              refine if_not (by rw [wanted_is (j := 12) (b := false) (by kernel_rfl) (by kernel_rfl) h111]; decide) ?_
              exact hK.out _ _ (Below.refl _ _) rfl
            · intro A wx hR hout hdep K hK
              have h3 : A.tmps[3]?.getD undef = .int .u64 (other : Int) := hout 3 (by kernel_rfl)
              have h111 : A.tmps[111]?.getD undef = .bool true := hdep 111 (by kernel_rfl)
              refine if_not (by rw [wanted_is (j := 12) (b := false) (by kernel_rfl) (by kernel_rfl) h111]; decide) ?_
              exact hK.out _ _ (Below.refl _ _) rfl
            · intro A wx hR hout hdep K hK
              have h117 : A.tmps[117]?.getD undef = undef := hdep 117 (by kernel_rfl)
              have h118 : A.tmps[118]?.getD undef = undef := hdep 118 (by kernel_rfl)
              have h111 : A.tmps[111]?.getD undef = .bool true := hdep 111 (by kernel_rfl)
              refine if_not (by rw [wanted_is (j := 12) (b := false) (by kernel_rfl) (by kernel_rfl) h111]; decide) ?_
              exact hK.out _ _ (Below.refl _ _) rfl
            · intro A wx hR hout hdep K hK
              have h115 : A.tmps[115]?.getD undef = undef := hdep 115 (by kernel_rfl)
              have h119 : A.tmps[119]?.getD undef = undef := hdep 119 (by kernel_rfl)
              have h111 : A.tmps[111]?.getD undef = .bool true := hdep 111 (by kernel_rfl)
              refine if_not (by rw [wanted_is (j := 12) (b := false) (by kernel_rfl) (by kernel_rfl) h111]; decide) ?_
              exact hK.out _ _ (Below.refl _ _) rfl
            · intro A wx hR hout hdep K hK
              have h111 : A.tmps[111]?.getD undef = .bool true := hdep 111 (by kernel_rfl)
              have h120 : A.tmps[120]?.getD undef = undef := hdep 120 (by kernel_rfl)
              refine if_yes (by kernel_rfl) ?_
              simp [go_sem, h111, h120, hsub, hsub2, hlt, hge, hcv, hgeP, hltP]
              exact hK.out _ _ (Below.refl _ _) rfl
            · intro A wx hR hout hdep K hK
              have h121 : A.tmps[121]?.getD undef = .bool true := hdep 121 (by kernel_rfl)
              refine if_yes (by kernel_rfl) ?_
              simp [go_sem, h121, hsub, hsub2, hlt, hge, hcv, hgeP, hltP]
              exact hK.out _ _ (Below.refl _ _) rfl
            · intro A wx hR hout hdep K hK
              have h9 : A.tmps[9]?.getD undef = .pointer (some ⟨nB, 0, none⟩) := hout 9 (by kernel_rfl)
              have h122 : A.tmps[122]?.getD undef = .bool true := hdep 122 (by kernel_rfl)
              refine if_yes ((wanted_is (j := 23) (b := true) (by kernel_rfl) (by kernel_rfl) h122).trans rfl) ?_
              have c0 := keep_cell hR c0
              have c1 := keep_cell hR c1
              have c2 := keep_cell hR c2
              have c3 := keep_cell hR c3
              have u0 := keep_cell hR u0
              have u1 := keep_cell hR u1
              have u2 := keep_cell hR u2
              have u3 := keep_cell hR u3
              simp [go_sem, h9, c0, c1, c2, c3, u0, u1, u2, u3, hsub, hsub2, hlt, hge, hcv, hgeP, hltP]
              exact hK.out _ _ (Below.refl _ _) rfl
            · intro A wx hR hout hdep K hK
              have h123 : A.tmps[123]?.getD undef = .agg #[.slice am' nm' pm', .slice ac' nc' pc', .int .u64 (bs : Int), .slice ap' np pp'] := hdep 123 (by kernel_rfl)
              have h122 : A.tmps[122]?.getD undef = .bool true := hdep 122 (by kernel_rfl)
              refine if_yes ((wanted_is (j := 23) (b := true) (by kernel_rfl) (by kernel_rfl) h122).trans rfl) ?_
              simp [go_sem, h123, hsub, hsub2, hlt, hge, hcv, hgeP, hltP]
              refine (KF.out _ hR).mono ?_
              rintro e wG ⟨rfl, hbG⟩
              exact hK.out _ _ hbG rfl
            · intro A wx hR hout hdep K hK
              have h122 : A.tmps[122]?.getD undef = .bool true := hdep 122 (by kernel_rfl)
              have h124 : A.tmps[124]?.getD undef = .bool true := hdep 124 (by kernel_rfl)
              refine if_yes (by kernel_rfl) ?_
              simp [go_sem, h122, h124, hsub, hsub2, hlt, hge, hcv, hgeP, hltP]
              exact hK.out _ _ (Below.refl _ _) rfl
            · intro A wx hR hout hdep K hK
              have h125 : A.tmps[125]?.getD undef = .bool true := hdep 125 (by kernel_rfl)
              refine if_yes (by kernel_rfl) ?_
              simp [go_sem, h125, hsub, hsub2, hlt, hge, hcv, hgeP, hltP]
              exact hK.out _ _ (Below.refl _ _) rfl
            · intro A wx hR hout hdep K hK
              have h126 : A.tmps[126]?.getD undef = .bool true := hdep 126 (by kernel_rfl)
              refine if_yes ((wanted_is (j := 27) (b := true) (by kernel_rfl) (by kernel_rfl) h126).trans rfl) ?_
              simp [go_sem, hsub, hsub2, hlt, hge, hcv, hgeP, hltP]
              refine (awake9 _).mono ?_
              rintro e wG ⟨rfl, hbG⟩
              exact hK.out _ _ hbG rfl
            · intro A wx hR hout hdep K hK
              have h126 : A.tmps[126]?.getD undef = .bool true := hdep 126 (by kernel_rfl)
              have h127 : A.tmps[127]?.getD undef = .bool true := hdep 127 (by kernel_rfl)
              refine if_yes (by kernel_rfl) ?_
              simp [go_sem, h126, h127, hsub, hsub2, hlt, hge, hcv, hgeP, hltP]
              exact hK.out _ _ (Below.refl _ _) rfl
            · intro A wx hR hout hdep K hK
              have h128 : A.tmps[128]?.getD undef = .bool true := hdep 128 (by kernel_rfl)
              refine if_yes (by kernel_rfl) ?_
              simp [go_sem, h128, hsub, hsub2, hlt, hge, hcv, hgeP, hltP]
              exact hK.out _ _ (Below.refl _ _) rfl
            simp only [putSl, Act.put, List.setIfInBounds_toArray, List.set_cons_zero, List.set_cons_succ]
            have hz : f 8 = .bool true := hf 8 (by kernel_rfl)
            rw [hz]
            go_wp2
            go_ret
            exact ⟨rfl, below_tr HB.out (below_tr tz hR)⟩
          · have hlt : decide ((dif : Int) < (s.size : Int)) = false := by simp; omega
            have hltP : (dif < s.size) = False := by simp; omega
            have KP' : Hid (∀ w', Below W7.heap.size W7 w' → Calls Try.prog 27 #[.agg #[.slice am' nm' pm', .slice ac' nc' pc'], .int .u64 (other : Int)] w' fun e w'' => e = .returned (.int .u8 (pk : Int)) ∧ Below w'.heap.size w' w'') := KP'.out (by omega)
            clear hge0 hlt0 hdif
            refine wp_region_slots (R := Ext) [⟨99, fun v _ => v = .int .u64 (other : Int), fun _ _ _ _ h => h⟩, ⟨100, fun v _ => v = .int .u64 (at_ : Int), fun _ _ _ _ h => h⟩, ⟨101, fun v _ => v = .bool true, fun _ _ _ _ h => h⟩, ⟨102, fun v _ => v = .bool true, fun _ _ _ _ h => h⟩, ⟨103, fun v _ => v = .int .u64 (other : Int), fun _ _ _ _ h => h⟩, ⟨104, fun v _ => v = .int .u64 (at_ : Int), fun _ _ _ _ h => h⟩, ⟨105, fun v _ => v = .int .u64 (dif : Int), fun _ _ _ _ h => h⟩, ⟨106, fun v _ => v = .string s, fun _ _ _ _ h => h⟩, ⟨107, fun v _ => v = .int .i64 (s.size : Int), fun _ _ _ _ h => h⟩, ⟨108, fun v _ => v = .int .u64 (s.size : Int), fun _ _ _ _ h => h⟩, ⟨109, fun v _ => v = .bool false, fun _ _ _ _ h => h⟩, ⟨110, fun v _ => v = .bool false, fun _ _ _ _ h => h⟩, ⟨111, fun v _ => v = .bool false, fun _ _ _ _ h => h⟩, ⟨112, fun v _ => v = .pointer (some ⟨nB, 0, none⟩), fun _ _ _ _ h => h⟩, ⟨113, fun v _ => v = .agg #[.slice am' nm' pm', .slice ac' nc' pc'], fun _ _ _ _ h => h⟩, ⟨114, fun v _ => v = .int .u64 (other : Int), fun _ _ _ _ h => h⟩, ⟨115, fun v _ => v = .int .u8 (pk : Int), fun _ _ _ _ h => h⟩, ⟨116, fun v _ => v = .pointer (some ⟨nG, 0, none⟩), fun _ _ _ _ h => h⟩, ⟨117, fun v _ => v = .agg #[.slice am nm pm, .slice ac nc pc], fun _ _ _ _ h => h⟩, ⟨118, fun v _ => v = .int .u64 (other : Int), fun _ _ _ _ h => h⟩, ⟨119, fun v _ => v = .int .u8 (pk : Int), fun _ _ _ _ h => h⟩, ⟨120, fun v _ => v = .bool true, fun _ _ _ _ h => h⟩, ⟨121, fun v _ => v = .bool true, fun _ _ _ _ h => h⟩, ⟨122, fun v _ => v = .bool true, fun _ _ _ _ h => h⟩, ⟨123, fun v _ => v = .agg #[.slice am' nm' pm', .slice ac' nc' pc', .int .u64 (bs : Int), .slice ap' np pp'], fun _ _ _ _ h => h⟩, ⟨124, fun v _ => v = .bool true, fun _ _ _ _ h => h⟩, ⟨125, fun v _ => v = .bool true, fun _ _ _ _ h => h⟩, ⟨126, fun v _ => v = .bool true, fun _ _ _ _ h => h⟩, ⟨127, fun v _ => v = .bool true, fun _ _ _ _ h => h⟩, ⟨128, fun v _ => v = .bool true, fun _ _ _ _ h => h⟩, ⟨8, fun v _ => v = .bool true, fun _ _ _ _ h => h⟩] _ (by kernel_rfl) rfl (by kernel_rfl) (Below.drew (Below.refl _ _)) (fun _ _ _ h1 h2 => below_tr h1 h2) (fun QQ => ⟨?_, ?_, ?_, ?_, ?_, ?_, ?_, ?_, ?_, ?_, ?_, ?_, ?_, ?_, ?_, ?_, ?_, ?_, ?_, ?_, ?_, ?_, ?_, ?_, ?_, ?_, ?_, ?_, ?_, ?_, ?_, trivial⟩) (fun f wy hR hf => ?_)
            · intro A wx hR hout hdep K hK
              have h3 : A.tmps[3]?.getD undef = .int .u64 (other : Int) := hout 3 (by kernel_rfl)
              refine if_yes (by kernel_rfl) ?_
              simp [go_sem, h3, hsub, hsub2, hlt, hge, hcv, hgeP, hltP]
              exact hK.out _ _ (Below.refl _ _) rfl
            · intro A wx hR hout hdep K hK
              have h14 : A.tmps[14]?.getD undef = .int .u64 (at_ : Int) := hout 14 (by kernel_rfl)
              refine if_yes (by kernel_rfl) ?_
              simp [go_sem, h14, hsub, hsub2, hlt, hge, hcv, hgeP, hltP]
              exact hK.out _ _ (Below.refl _ _) rfl
            · intro A wx hR hout hdep K hK
              have h99 : A.tmps[99]?.getD undef = .int .u64 (other : Int) := hdep 99 (by kernel_rfl)
              have h100 : A.tmps[100]?.getD undef = .int .u64 (at_ : Int) := hdep 100 (by kernel_rfl)
              refine if_yes (by kernel_rfl) ?_
              simp [go_sem, h99, h100, hsub, hsub2, hlt, hge, hcv, hgeP, hltP]
              exact hK.out _ _ (Below.refl _ _) rfl
            · intro A wx hR hout hdep K hK
              have h101 : A.tmps[101]?.getD undef = .bool true := hdep 101 (by kernel_rfl)
              refine if_yes (by kernel_rfl) ?_
              simp [go_sem, h101, hsub, hsub2, hlt, hge, hcv, hgeP, hltP]
              exact hK.out _ _ (Below.refl _ _) rfl
            · intro A wx hR hout hdep K hK
              have h3 : A.tmps[3]?.getD undef = .int .u64 (other : Int) := hout 3 (by kernel_rfl)
              have h102 : A.tmps[102]?.getD undef = .bool true := hdep 102 (by kernel_rfl)
              refine if_yes ((wanted_is (j := 3) (b := true) (by kernel_rfl) (by kernel_rfl) h102).trans rfl) ?_
              simp [go_sem, h3, hsub, hsub2, hlt, hge, hcv, hgeP, hltP]
              exact hK.out _ _ (Below.refl _ _) rfl
            · intro A wx hR hout hdep K hK
              have h14 : A.tmps[14]?.getD undef = .int .u64 (at_ : Int) := hout 14 (by kernel_rfl)
              have h102 : A.tmps[102]?.getD undef = .bool true := hdep 102 (by kernel_rfl)
              refine if_yes ((wanted_is (j := 3) (b := true) (by kernel_rfl) (by kernel_rfl) h102).trans rfl) ?_
              simp [go_sem, h14, hsub, hsub2, hlt, hge, hcv, hgeP, hltP]
              exact hK.out _ _ (Below.refl _ _) rfl
            · intro A wx hR hout hdep K hK
              have h103 : A.tmps[103]?.getD undef = .int .u64 (other : Int) := hdep 103 (by kernel_rfl)
              have h104 : A.tmps[104]?.getD undef = .int .u64 (at_ : Int) := hdep 104 (by kernel_rfl)
              have h102 : A.tmps[102]?.getD undef = .bool true := hdep 102 (by kernel_rfl)
              refine if_yes ((wanted_is (j := 3) (b := true) (by kernel_rfl) (by kernel_rfl) h102).trans rfl) ?_
              simp [go_sem, h103, h104, hsub, hsub2, hlt, hge, hcv, hgeP, hltP]
              exact hK.out _ _ (Below.refl _ _) rfl
            · intro A wx hR hout hdep K hK
              have h2 : A.tmps[2]?.getD undef = .string s := hout 2 (by kernel_rfl)
              have h102 : A.tmps[102]?.getD undef = .bool true := hdep 102 (by kernel_rfl)
              refine if_yes ((wanted_is (j := 3) (b := true) (by kernel_rfl) (by kernel_rfl) h102).trans rfl) ?_
              simp [go_sem, h2, hsub, hsub2, hlt, hge, hcv, hgeP, hltP]
              exact hK.out _ _ (Below.refl _ _) rfl
            · intro A wx hR hout hdep K hK
              have h106 : A.tmps[106]?.getD undef = .string s := hdep 106 (by kernel_rfl)
              have h102 : A.tmps[102]?.getD undef = .bool true := hdep 102 (by kernel_rfl)
              refine if_yes ((wanted_is (j := 3) (b := true) (by kernel_rfl) (by kernel_rfl) h102).trans rfl) ?_
              simp [go_sem, h106, hsub, hsub2, hlt, hge, hcv, hgeP, hltP]
              exact hK.out _ _ (Below.refl _ _) rfl
            · intro A wx hR hout hdep K hK
              have h107 : A.tmps[107]?.getD undef = .int .i64 (s.size : Int) := hdep 107 (by kernel_rfl)
              have h102 : A.tmps[102]?.getD undef = .bool true := hdep 102 (by kernel_rfl)
              refine if_yes ((wanted_is (j := 3) (b := true) (by kernel_rfl) (by kernel_rfl) h102).trans rfl) ?_
              simp [go_sem, h107, hsub, hsub2, hlt, hge, hcv, hgeP, hltP]
              exact hK.out _ _ (Below.refl _ _) rfl
            · intro A wx hR hout hdep K hK
              have h105 : A.tmps[105]?.getD undef = .int .u64 (dif : Int) := hdep 105 (by kernel_rfl)
              have h108 : A.tmps[108]?.getD undef = .int .u64 (s.size : Int) := hdep 108 (by kernel_rfl)
              have h102 : A.tmps[102]?.getD undef = .bool true := hdep 102 (by kernel_rfl)
              refine if_yes ((wanted_is (j := 3) (b := true) (by kernel_rfl) (by kernel_rfl) h102).trans rfl) ?_
              simp [go_sem, h105, h108, hsub, hsub2, hlt, hge, hcv, hgeP, hltP]
              exact hK.out _ _ (Below.refl _ _) rfl
            · intro A wx hR hout hdep K hK
              have h102 : A.tmps[102]?.getD undef = .bool true := hdep 102 (by kernel_rfl)
              have h109 : A.tmps[109]?.getD undef = .bool false := hdep 109 (by kernel_rfl)
              refine if_yes (by kernel_rfl) ?_
              simp [go_sem, h102, h109, hsub, hsub2, hlt, hge, hcv, hgeP, hltP]
              exact hK.out _ _ (Below.refl _ _) rfl
            · intro A wx hR hout hdep K hK
              have h110 : A.tmps[110]?.getD undef = .bool false := hdep 110 (by kernel_rfl)
              refine if_yes (by kernel_rfl) ?_
              simp [go_sem, h110, hsub, hsub2, hlt, hge, hcv, hgeP, hltP]
              exact hK.out _ _ (Below.refl _ _) rfl
            · intro A wx hR hout hdep K hK
              have h9 : A.tmps[9]?.getD undef = .pointer (some ⟨nB, 0, none⟩) := hout 9 (by kernel_rfl)
              have h111 : A.tmps[111]?.getD undef = .bool false := hdep 111 (by kernel_rfl)
              refine if_yes ((wanted_is (j := 12) (b := false) (by kernel_rfl) (by kernel_rfl) h111).trans rfl) ?_
              simp [go_sem, h9, hsub, hsub2, hlt, hge, hcv, hgeP, hltP]
              exact hK.out _ _ (Below.refl _ _) rfl
            · intro A wx hR hout hdep K hK
              have h112 : A.tmps[112]?.getD undef = .pointer (some ⟨nB, 0, none⟩) := hdep 112 (by kernel_rfl)
              have h111 : A.tmps[111]?.getD undef = .bool false := hdep 111 (by kernel_rfl)
              refine if_yes ((wanted_is (j := 12) (b := false) (by kernel_rfl) (by kernel_rfl) h111).trans rfl) ?_
              have c0 := keep_cell hR c0
              have c1 := keep_cell hR c1
              have c2 := keep_cell hR c2
              have c3 := keep_cell hR c3
              have u0 := keep_cell hR u0
              have u1 := keep_cell hR u1
              have u2 := keep_cell hR u2
              have u3 := keep_cell hR u3
              simp [go_sem, h112, c0, c1, c2, c3, u0, u1, u2, u3, hsub, hsub2, hlt, hge, hcv, hgeP, hltP]
              exact hK.out _ _ (Below.refl _ _) rfl
            · intro A wx hR hout hdep K hK
              have h3 : A.tmps[3]?.getD undef = .int .u64 (other : Int) := hout 3 (by kernel_rfl)
              have h111 : A.tmps[111]?.getD undef = .bool false := hdep 111 (by kernel_rfl)
              refine if_yes ((wanted_is (j := 12) (b := false) (by kernel_rfl) (by kernel_rfl) h111).trans rfl) ?_
              simp [go_sem, h3, hsub, hsub2, hlt, hge, hcv, hgeP, hltP]
              exact hK.out _ _ (Below.refl _ _) rfl
            · intro A wx hR hout hdep K hK
              have h113 : A.tmps[113]?.getD undef = .agg #[.slice am' nm' pm', .slice ac' nc' pc'] := hdep 113 (by kernel_rfl)
              have h114 : A.tmps[114]?.getD undef = .int .u64 (other : Int) := hdep 114 (by kernel_rfl)
              have h111 : A.tmps[111]?.getD undef = .bool false := hdep 111 (by kernel_rfl)
              refine if_yes ((wanted_is (j := 12) (b := false) (by kernel_rfl) (by kernel_rfl) h111).trans rfl) ?_
              simp [go_sem, h113, h114, hsub, hsub2, hlt, hge, hcv, hgeP, hltP]
              refine (KP'.out _ hR).mono ?_
              rintro e wG ⟨rfl, hbG⟩
              exact hK.out _ _ hbG rfl
            · intro A wx hR hout hdep K hK
              have h4 : A.tmps[4]?.getD undef = .pointer (some ⟨nG, 0, none⟩) := hout 4 (by kernel_rfl)
              have h111 : A.tmps[111]?.getD undef = .bool false := hdep 111 (by kernel_rfl)
              refine if_yes ((wanted_is (j := 12) (b := false) (by kernel_rfl) (by kernel_rfl) h111).trans rfl) ?_
              simp [go_sem, h4, hsub, hsub2, hlt, hge, hcv, hgeP, hltP]
              exact hK.out _ _ (Below.refl _ _) rfl
            · intro A wx hR hout hdep K hK
              have h116 : A.tmps[116]?.getD undef = .pointer (some ⟨nG, 0, none⟩) := hdep 116 (by kernel_rfl)
              have h111 : A.tmps[111]?.getD undef = .bool false := hdep 111 (by kernel_rfl)
              refine if_yes ((wanted_is (j := 12) (b := false) (by kernel_rfl) (by kernel_rfl) h111).trans rfl) ?_
              have c0 := keep_cell hR c0
              have c1 := keep_cell hR c1
              have c2 := keep_cell hR c2
              have c3 := keep_cell hR c3
              have u0 := keep_cell hR u0
              have u1 := keep_cell hR u1
              have u2 := keep_cell hR u2
              have u3 := keep_cell hR u3
              simp [go_sem, h116, c0, c1, c2, c3, u0, u1, u2, u3, hsub, hsub2, hlt, hge, hcv, hgeP, hltP]
              exact hK.out _ _ (Below.refl _ _) rfl
            · intro A wx hR hout hdep K hK
              have h3 : A.tmps[3]?.getD undef = .int .u64 (other : Int) := hout 3 (by kernel_rfl)
              have h111 : A.tmps[111]?.getD undef = .bool false := hdep 111 (by kernel_rfl)
              refine if_yes ((wanted_is (j := 12) (b := false) (by kernel_rfl) (by kernel_rfl) h111).trans rfl) ?_
              simp [go_sem, h3, hsub, hsub2, hlt, hge, hcv, hgeP, hltP]
              exact hK.out _ _ (Below.refl _ _) rfl
            · intro A wx hR hout hdep K hK
              have h117 : A.tmps[117]?.getD undef = .agg #[.slice am nm pm, .slice ac nc pc] := hdep 117 (by kernel_rfl)
              have h118 : A.tmps[118]?.getD undef = .int .u64 (other : Int) := hdep 118 (by kernel_rfl)
              have h111 : A.tmps[111]?.getD undef = .bool false := hdep 111 (by kernel_rfl)
              refine if_yes ((wanted_is (j := 12) (b := false) (by kernel_rfl) (by kernel_rfl) h111).trans rfl) ?_
              simp [go_sem, h117, h118, hsub, hsub2, hlt, hge, hcv, hgeP, hltP]
              refine (KP.out _ hR).mono ?_
              rintro e wG ⟨rfl, hbG⟩
              exact hK.out _ _ hbG rfl
            · intro A wx hR hout hdep K hK
              have h115 : A.tmps[115]?.getD undef = .int .u8 (pk : Int) := hdep 115 (by kernel_rfl)
              have h119 : A.tmps[119]?.getD undef = .int .u8 (pk : Int) := hdep 119 (by kernel_rfl)
              have h111 : A.tmps[111]?.getD undef = .bool false := hdep 111 (by kernel_rfl)
              refine if_yes ((wanted_is (j := 12) (b := false) (by kernel_rfl) (by kernel_rfl) h111).trans rfl) ?_
              simp [go_sem, h115, h119, hsub, hsub2, hlt, hge, hcv, hgeP, hltP]
              exact hK.out _ _ (Below.refl _ _) rfl
            · intro A wx hR hout hdep K hK
              have h111 : A.tmps[111]?.getD undef = .bool false := hdep 111 (by kernel_rfl)
              have h120 : A.tmps[120]?.getD undef = .bool true := hdep 120 (by kernel_rfl)
              refine if_yes (by kernel_rfl) ?_
              simp [go_sem, h111, h120, hsub, hsub2, hlt, hge, hcv, hgeP, hltP]
              exact hK.out _ _ (Below.refl _ _) rfl
            · intro A wx hR hout hdep K hK
              have h121 : A.tmps[121]?.getD undef = .bool true := hdep 121 (by kernel_rfl)
              refine if_yes (by kernel_rfl) ?_
              simp [go_sem, h121, hsub, hsub2, hlt, hge, hcv, hgeP, hltP]
              exact hK.out _ _ (Below.refl _ _) rfl
            · intro A wx hR hout hdep K hK
              have h9 : A.tmps[9]?.getD undef = .pointer (some ⟨nB, 0, none⟩) := hout 9 (by kernel_rfl)
              have h122 : A.tmps[122]?.getD undef = .bool true := hdep 122 (by kernel_rfl)
              refine if_yes ((wanted_is (j := 23) (b := true) (by kernel_rfl) (by kernel_rfl) h122).trans rfl) ?_
              have c0 := keep_cell hR c0
              have c1 := keep_cell hR c1
              have c2 := keep_cell hR c2
              have c3 := keep_cell hR c3
              have u0 := keep_cell hR u0
              have u1 := keep_cell hR u1
              have u2 := keep_cell hR u2
              have u3 := keep_cell hR u3
              simp [go_sem, h9, c0, c1, c2, c3, u0, u1, u2, u3, hsub, hsub2, hlt, hge, hcv, hgeP, hltP]
              exact hK.out _ _ (Below.refl _ _) rfl
            · intro A wx hR hout hdep K hK
              have h123 : A.tmps[123]?.getD undef = .agg #[.slice am' nm' pm', .slice ac' nc' pc', .int .u64 (bs : Int), .slice ap' np pp'] := hdep 123 (by kernel_rfl)
              have h122 : A.tmps[122]?.getD undef = .bool true := hdep 122 (by kernel_rfl)
              refine if_yes ((wanted_is (j := 23) (b := true) (by kernel_rfl) (by kernel_rfl) h122).trans rfl) ?_
              simp [go_sem, h123, hsub, hsub2, hlt, hge, hcv, hgeP, hltP]
              refine (KF.out _ hR).mono ?_
              rintro e wG ⟨rfl, hbG⟩
              exact hK.out _ _ hbG rfl
            · intro A wx hR hout hdep K hK
              have h122 : A.tmps[122]?.getD undef = .bool true := hdep 122 (by kernel_rfl)
              have h124 : A.tmps[124]?.getD undef = .bool true := hdep 124 (by kernel_rfl)
              refine if_yes (by kernel_rfl) ?_
              simp [go_sem, h122, h124, hsub, hsub2, hlt, hge, hcv, hgeP, hltP]
              exact hK.out _ _ (Below.refl _ _) rfl
            · intro A wx hR hout hdep K hK
              have h125 : A.tmps[125]?.getD undef = .bool true := hdep 125 (by kernel_rfl)
              refine if_yes (by kernel_rfl) ?_
              simp [go_sem, h125, hsub, hsub2, hlt, hge, hcv, hgeP, hltP]
              exact hK.out _ _ (Below.refl _ _) rfl
            · intro A wx hR hout hdep K hK
              have h126 : A.tmps[126]?.getD undef = .bool true := hdep 126 (by kernel_rfl)
              refine if_yes ((wanted_is (j := 27) (b := true) (by kernel_rfl) (by kernel_rfl) h126).trans rfl) ?_
              simp [go_sem, hsub, hsub2, hlt, hge, hcv, hgeP, hltP]
              refine (awake9 _).mono ?_
              rintro e wG ⟨rfl, hbG⟩
              exact hK.out _ _ hbG rfl
            · intro A wx hR hout hdep K hK
              have h126 : A.tmps[126]?.getD undef = .bool true := hdep 126 (by kernel_rfl)
              have h127 : A.tmps[127]?.getD undef = .bool true := hdep 127 (by kernel_rfl)
              refine if_yes (by kernel_rfl) ?_
              simp [go_sem, h126, h127, hsub, hsub2, hlt, hge, hcv, hgeP, hltP]
              exact hK.out _ _ (Below.refl _ _) rfl
            · intro A wx hR hout hdep K hK
              have h128 : A.tmps[128]?.getD undef = .bool true := hdep 128 (by kernel_rfl)
              refine if_yes (by kernel_rfl) ?_
              simp [go_sem, h128, hsub, hsub2, hlt, hge, hcv, hgeP, hltP]
              exact hK.out _ _ (Below.refl _ _) rfl
            simp only [putSl, Act.put, List.setIfInBounds_toArray, List.set_cons_zero, List.set_cons_succ]
            have hz : f 8 = .bool true := hf 8 (by kernel_rfl)
            rw [hz]
            go_wp2
            go_ret
            exact ⟨rfl, below_tr HB.out (below_tr tz hR)⟩
        · have hge : decide ((at_ : Int) ≤ (other : Int)) = false := by simp; omega
          have hgeP : (at_ ≤ other) = False := by simp; omega
          have KP' : Hid (∀ w', Below W7.heap.size W7 w' → Calls Try.prog 27 #[.agg #[.slice am' nm' pm', .slice ac' nc' pc'], .int .u64 (other : Int)] w' fun e w'' => e = .returned (.int .u8 (pk : Int)) ∧ Below w'.heap.size w' w'') := KP'.out (by omega)
          clear hge0
          refine wp_region_slots (R := Ext) [⟨99, fun v _ => v = .int .u64 (other : Int), fun _ _ _ _ h => h⟩, ⟨100, fun v _ => v = .int .u64 (at_ : Int), fun _ _ _ _ h => h⟩, ⟨101, fun v _ => v = .bool false, fun _ _ _ _ h => h⟩, ⟨102, fun v _ => v = .bool false, fun _ _ _ _ h => h⟩, ⟨103, fun v _ => v = undef, fun _ _ _ _ h => h⟩, ⟨104, fun v _ => v = undef, fun _ _ _ _ h => h⟩, ⟨105, fun v _ => v = undef, fun _ _ _ _ h => h⟩, ⟨106, fun v _ => v = undef, fun _ _ _ _ h => h⟩, ⟨107, fun v _ => v = undef, fun _ _ _ _ h => h⟩, ⟨108, fun v _ => v = undef, fun _ _ _ _ h => h⟩, ⟨109, fun v _ => v = undef, fun _ _ _ _ h => h⟩, ⟨110, fun v _ => v = .bool false, fun _ _ _ _ h => h⟩, ⟨111, fun v _ => v = .bool false, fun _ _ _ _ h => h⟩, ⟨112, fun v _ => v = .pointer (some ⟨nB, 0, none⟩), fun _ _ _ _ h => h⟩, ⟨113, fun v _ => v = .agg #[.slice am' nm' pm', .slice ac' nc' pc'], fun _ _ _ _ h => h⟩, ⟨114, fun v _ => v = .int .u64 (other : Int), fun _ _ _ _ h => h⟩, ⟨115, fun v _ => v = .int .u8 (pk : Int), fun _ _ _ _ h => h⟩, ⟨116, fun v _ => v = .pointer (some ⟨nG, 0, none⟩), fun _ _ _ _ h => h⟩, ⟨117, fun v _ => v = .agg #[.slice am nm pm, .slice ac nc pc], fun _ _ _ _ h => h⟩, ⟨118, fun v _ => v = .int .u64 (other : Int), fun _ _ _ _ h => h⟩, ⟨119, fun v _ => v = .int .u8 (pk : Int), fun _ _ _ _ h => h⟩, ⟨120, fun v _ => v = .bool true, fun _ _ _ _ h => h⟩, ⟨121, fun v _ => v = .bool true, fun _ _ _ _ h => h⟩, ⟨122, fun v _ => v = .bool true, fun _ _ _ _ h => h⟩, ⟨123, fun v _ => v = .agg #[.slice am' nm' pm', .slice ac' nc' pc', .int .u64 (bs : Int), .slice ap' np pp'], fun _ _ _ _ h => h⟩, ⟨124, fun v _ => v = .bool true, fun _ _ _ _ h => h⟩, ⟨125, fun v _ => v = .bool true, fun _ _ _ _ h => h⟩, ⟨126, fun v _ => v = .bool true, fun _ _ _ _ h => h⟩, ⟨127, fun v _ => v = .bool true, fun _ _ _ _ h => h⟩, ⟨128, fun v _ => v = .bool true, fun _ _ _ _ h => h⟩, ⟨8, fun v _ => v = .bool true, fun _ _ _ _ h => h⟩] _ (by kernel_rfl) rfl (by kernel_rfl) (Below.drew (Below.refl _ _)) (fun _ _ _ h1 h2 => below_tr h1 h2) (fun QQ => ⟨?_, ?_, ?_, ?_, ?_, ?_, ?_, ?_, ?_, ?_, ?_, ?_, ?_, ?_, ?_, ?_, ?_, ?_, ?_, ?_, ?_, ?_, ?_, ?_, ?_, ?_, ?_, ?_, ?_, ?_, ?_, trivial⟩) (fun f wy hR hf => ?_)
          · intro A wx hR hout hdep K hK
            have h3 : A.tmps[3]?.getD undef = .int .u64 (other : Int) := hout 3 (by kernel_rfl)
            refine if_yes (by kernel_rfl) ?_
            simp [go_sem, h3, hge, hgeP]
            exact hK.out _ _ (Below.refl _ _) rfl
          · intro A wx hR hout hdep K hK
            have h14 : A.tmps[14]?.getD undef = .int .u64 (at_ : Int) := hout 14 (by kernel_rfl)
            refine if_yes (by kernel_rfl) ?_
            simp [go_sem, h14, hge, hgeP]
            exact hK.out _ _ (Below.refl _ _) rfl
          · intro A wx hR hout hdep K hK
            have h99 : A.tmps[99]?.getD undef = .int .u64 (other : Int) := hdep 99 (by kernel_rfl)
            have h100 : A.tmps[100]?.getD undef = .int .u64 (at_ : Int) := hdep 100 (by kernel_rfl)
            refine if_yes (by kernel_rfl) ?_
            simp [go_sem, h99, h100, hge, hgeP]
            exact hK.out _ _ (Below.refl _ _) rfl
          · intro A wx hR hout hdep K hK
            have h101 : A.tmps[101]?.getD undef = .bool false := hdep 101 (by kernel_rfl)
            refine if_yes (by kernel_rfl) ?_
            simp [go_sem, h101, hge, hgeP]
            exact hK.out _ _ (Below.refl _ _) rfl
          · intro A wx hR hout hdep K hK
            have h3 : A.tmps[3]?.getD undef = .int .u64 (other : Int) := hout 3 (by kernel_rfl)
            have h102 : A.tmps[102]?.getD undef = .bool false := hdep 102 (by kernel_rfl)
            refine if_not (by rw [wanted_is (j := 3) (b := true) (by kernel_rfl) (by kernel_rfl) h102]; decide) ?_
            exact hK.out _ _ (Below.refl _ _) rfl
          · intro A wx hR hout hdep K hK
            have h14 : A.tmps[14]?.getD undef = .int .u64 (at_ : Int) := hout 14 (by kernel_rfl)
            have h102 : A.tmps[102]?.getD undef = .bool false := hdep 102 (by kernel_rfl)
            refine if_not (by rw [wanted_is (j := 3) (b := true) (by kernel_rfl) (by kernel_rfl) h102]; decide) ?_
            exact hK.out _ _ (Below.refl _ _) rfl
          · intro A wx hR hout hdep K hK
            have h103 : A.tmps[103]?.getD undef = undef := hdep 103 (by kernel_rfl)
            have h104 : A.tmps[104]?.getD undef = undef := hdep 104 (by kernel_rfl)
            have h102 : A.tmps[102]?.getD undef = .bool false := hdep 102 (by kernel_rfl)
            refine if_not (by rw [wanted_is (j := 3) (b := true) (by kernel_rfl) (by kernel_rfl) h102]; decide) ?_
            exact hK.out _ _ (Below.refl _ _) rfl
          · intro A wx hR hout hdep K hK
            have h2 : A.tmps[2]?.getD undef = .string s := hout 2 (by kernel_rfl)
            have h102 : A.tmps[102]?.getD undef = .bool false := hdep 102 (by kernel_rfl)
            refine if_not (by rw [wanted_is (j := 3) (b := true) (by kernel_rfl) (by kernel_rfl) h102]; decide) ?_
            exact hK.out _ _ (Below.refl _ _) rfl
          · intro A wx hR hout hdep K hK
            have h106 : A.tmps[106]?.getD undef = undef := hdep 106 (by kernel_rfl)
            have h102 : A.tmps[102]?.getD undef = .bool false := hdep 102 (by kernel_rfl)
            refine if_not (by rw [wanted_is (j := 3) (b := true) (by kernel_rfl) (by kernel_rfl) h102]; decide) ?_
            exact hK.out _ _ (Below.refl _ _) rfl
          · intro A wx hR hout hdep K hK
            have h107 : A.tmps[107]?.getD undef = undef := hdep 107 (by kernel_rfl)
            have h102 : A.tmps[102]?.getD undef = .bool false := hdep 102 (by kernel_rfl)
            refine if_not (by rw [wanted_is (j := 3) (b := true) (by kernel_rfl) (by kernel_rfl) h102]; decide) ?_
            exact hK.out _ _ (Below.refl _ _) rfl
          · intro A wx hR hout hdep K hK
            have h105 : A.tmps[105]?.getD undef = undef := hdep 105 (by kernel_rfl)
            have h108 : A.tmps[108]?.getD undef = undef := hdep 108 (by kernel_rfl)
            have h102 : A.tmps[102]?.getD undef = .bool false := hdep 102 (by kernel_rfl)
            refine if_not (by rw [wanted_is (j := 3) (b := true) (by kernel_rfl) (by kernel_rfl) h102]; decide) ?_
            exact hK.out _ _ (Below.refl _ _) rfl
          · intro A wx hR hout hdep K hK
            have h102 : A.tmps[102]?.getD undef = .bool false := hdep 102 (by kernel_rfl)
            have h109 : A.tmps[109]?.getD undef = undef := hdep 109 (by kernel_rfl)
            refine if_yes (by kernel_rfl) ?_
            simp [go_sem, h102, h109, hge, hgeP]
            exact hK.out _ _ (Below.refl _ _) rfl
          · intro A wx hR hout hdep K hK
            have h110 : A.tmps[110]?.getD undef = .bool false := hdep 110 (by kernel_rfl)
            refine if_yes (by kernel_rfl) ?_
            simp [go_sem, h110, hge, hgeP]
            exact hK.out _ _ (Below.refl _ _) rfl
          · intro A wx hR hout hdep K hK
            have h9 : A.tmps[9]?.getD undef = .pointer (some ⟨nB, 0, none⟩) := hout 9 (by kernel_rfl)
            have h111 : A.tmps[111]?.getD undef = .bool false := hdep 111 (by kernel_rfl)
            refine if_yes ((wanted_is (j := 12) (b := false) (by kernel_rfl) (by kernel_rfl) h111).trans rfl) ?_
            simp [go_sem, h9, hge, hgeP]
            exact hK.out _ _ (Below.refl _ _) rfl
          · intro A wx hR hout hdep K hK
            have h112 : A.tmps[112]?.getD undef = .pointer (some ⟨nB, 0, none⟩) := hdep 112 (by kernel_rfl)
            have h111 : A.tmps[111]?.getD undef = .bool false := hdep 111 (by kernel_rfl)
            refine if_yes ((wanted_is (j := 12) (b := false) (by kernel_rfl) (by kernel_rfl) h111).trans rfl) ?_
            have c0 := keep_cell hR c0
            have c1 := keep_cell hR c1
            have c2 := keep_cell hR c2
            have c3 := keep_cell hR c3
            have u0 := keep_cell hR u0
            have u1 := keep_cell hR u1
            have u2 := keep_cell hR u2
            have u3 := keep_cell hR u3
            simp [go_sem, h112, c0, c1, c2, c3, u0, u1, u2, u3, hge, hgeP]
            exact hK.out _ _ (Below.refl _ _) rfl
          · intro A wx hR hout hdep K hK
            have h3 : A.tmps[3]?.getD undef = .int .u64 (other : Int) := hout 3 (by kernel_rfl)
            have h111 : A.tmps[111]?.getD undef = .bool false := hdep 111 (by kernel_rfl)
            refine if_yes ((wanted_is (j := 12) (b := false) (by kernel_rfl) (by kernel_rfl) h111).trans rfl) ?_
            simp [go_sem, h3, hge, hgeP]
            exact hK.out _ _ (Below.refl _ _) rfl
          · intro A wx hR hout hdep K hK
            have h113 : A.tmps[113]?.getD undef = .agg #[.slice am' nm' pm', .slice ac' nc' pc'] := hdep 113 (by kernel_rfl)
            have h114 : A.tmps[114]?.getD undef = .int .u64 (other : Int) := hdep 114 (by kernel_rfl)
            have h111 : A.tmps[111]?.getD undef = .bool false := hdep 111 (by kernel_rfl)
            refine if_yes ((wanted_is (j := 12) (b := false) (by kernel_rfl) (by kernel_rfl) h111).trans rfl) ?_
            simp [go_sem, h113, h114, hge, hgeP]
            refine (KP'.out _ hR).mono ?_
            rintro e wG ⟨rfl, hbG⟩
            exact hK.out _ _ hbG rfl
          · intro A wx hR hout hdep K hK
            have h4 : A.tmps[4]?.getD undef = .pointer (some ⟨nG, 0, none⟩) := hout 4 (by kernel_rfl)
            have h111 : A.tmps[111]?.getD undef = .bool false := hdep 111 (by kernel_rfl)
            refine if_yes ((wanted_is (j := 12) (b := false) (by kernel_rfl) (by kernel_rfl) h111).trans rfl) ?_
            simp [go_sem, h4, hge, hgeP]
            exact hK.out _ _ (Below.refl _ _) rfl
          · intro A wx hR hout hdep K hK
            have h116 : A.tmps[116]?.getD undef = .pointer (some ⟨nG, 0, none⟩) := hdep 116 (by kernel_rfl)
            have h111 : A.tmps[111]?.getD undef = .bool false := hdep 111 (by kernel_rfl)
            refine if_yes ((wanted_is (j := 12) (b := false) (by kernel_rfl) (by kernel_rfl) h111).trans rfl) ?_
            have c0 := keep_cell hR c0
            have c1 := keep_cell hR c1
            have c2 := keep_cell hR c2
            have c3 := keep_cell hR c3
            have u0 := keep_cell hR u0
            have u1 := keep_cell hR u1
            have u2 := keep_cell hR u2
            have u3 := keep_cell hR u3
            simp [go_sem, h116, c0, c1, c2, c3, u0, u1, u2, u3, hge, hgeP]
            exact hK.out _ _ (Below.refl _ _) rfl
          · intro A wx hR hout hdep K hK
            have h3 : A.tmps[3]?.getD undef = .int .u64 (other : Int) := hout 3 (by kernel_rfl)
            have h111 : A.tmps[111]?.getD undef = .bool false := hdep 111 (by kernel_rfl)
            refine if_yes ((wanted_is (j := 12) (b := false) (by kernel_rfl) (by kernel_rfl) h111).trans rfl) ?_
            simp [go_sem, h3, hge, hgeP]
            exact hK.out _ _ (Below.refl _ _) rfl
          · intro A wx hR hout hdep K hK
            have h117 : A.tmps[117]?.getD undef = .agg #[.slice am nm pm, .slice ac nc pc] := hdep 117 (by kernel_rfl)
            have h118 : A.tmps[118]?.getD undef = .int .u64 (other : Int) := hdep 118 (by kernel_rfl)
            have h111 : A.tmps[111]?.getD undef = .bool false := hdep 111 (by kernel_rfl)
            refine if_yes ((wanted_is (j := 12) (b := false) (by kernel_rfl) (by kernel_rfl) h111).trans rfl) ?_
            simp [go_sem, h117, h118, hge, hgeP]
            refine (KP.out _ hR).mono ?_
            rintro e wG ⟨rfl, hbG⟩
            exact hK.out _ _ hbG rfl
          · intro A wx hR hout hdep K hK
            have h115 : A.tmps[115]?.getD undef = .int .u8 (pk : Int) := hdep 115 (by kernel_rfl)
            have h119 : A.tmps[119]?.getD undef = .int .u8 (pk : Int) := hdep 119 (by kernel_rfl)
            have h111 : A.tmps[111]?.getD undef = .bool false := hdep 111 (by kernel_rfl)
            refine if_yes ((wanted_is (j := 12) (b := false) (by kernel_rfl) (by kernel_rfl) h111).trans rfl) ?_
            simp [go_sem, h115, h119, hge, hgeP]
            exact hK.out _ _ (Below.refl _ _) rfl
          · intro A wx hR hout hdep K hK
            have h111 : A.tmps[111]?.getD undef = .bool false := hdep 111 (by kernel_rfl)
            have h120 : A.tmps[120]?.getD undef = .bool true := hdep 120 (by kernel_rfl)
            refine if_yes (by kernel_rfl) ?_
            simp [go_sem, h111, h120, hge, hgeP]
            exact hK.out _ _ (Below.refl _ _) rfl
          · intro A wx hR hout hdep K hK
            have h121 : A.tmps[121]?.getD undef = .bool true := hdep 121 (by kernel_rfl)
            refine if_yes (by kernel_rfl) ?_
            simp [go_sem, h121, hge, hgeP]
            exact hK.out _ _ (Below.refl _ _) rfl
          · intro A wx hR hout hdep K hK
            have h9 : A.tmps[9]?.getD undef = .pointer (some ⟨nB, 0, none⟩) := hout 9 (by kernel_rfl)
            have h122 : A.tmps[122]?.getD undef = .bool true := hdep 122 (by kernel_rfl)
            refine if_yes ((wanted_is (j := 23) (b := true) (by kernel_rfl) (by kernel_rfl) h122).trans rfl) ?_
            have c0 := keep_cell hR c0
            have c1 := keep_cell hR c1
            have c2 := keep_cell hR c2
            have c3 := keep_cell hR c3
            have u0 := keep_cell hR u0
            have u1 := keep_cell hR u1
            have u2 := keep_cell hR u2
            have u3 := keep_cell hR u3
            simp [go_sem, h9, c0, c1, c2, c3, u0, u1, u2, u3, hge, hgeP]
            exact hK.out _ _ (Below.refl _ _) rfl
          · intro A wx hR hout hdep K hK
            have h123 : A.tmps[123]?.getD undef = .agg #[.slice am' nm' pm', .slice ac' nc' pc', .int .u64 (bs : Int), .slice ap' np pp'] := hdep 123 (by kernel_rfl)
            have h122 : A.tmps[122]?.getD undef = .bool true := hdep 122 (by kernel_rfl)
            refine if_yes ((wanted_is (j := 23) (b := true) (by kernel_rfl) (by kernel_rfl) h122).trans rfl) ?_
            simp [go_sem, h123, hge, hgeP]
            refine (KF.out _ hR).mono ?_
            rintro e wG ⟨rfl, hbG⟩
            exact hK.out _ _ hbG rfl
          · intro A wx hR hout hdep K hK
            have h122 : A.tmps[122]?.getD undef = .bool true := hdep 122 (by kernel_rfl)
            have h124 : A.tmps[124]?.getD undef = .bool true := hdep 124 (by kernel_rfl)
            refine if_yes (by kernel_rfl) ?_
            simp [go_sem, h122, h124, hge, hgeP]
            exact hK.out _ _ (Below.refl _ _) rfl
          · intro A wx hR hout hdep K hK
            have h125 : A.tmps[125]?.getD undef = .bool true := hdep 125 (by kernel_rfl)
            refine if_yes (by kernel_rfl) ?_
            simp [go_sem, h125, hge, hgeP]
            exact hK.out _ _ (Below.refl _ _) rfl
          · intro A wx hR hout hdep K hK
            have h126 : A.tmps[126]?.getD undef = .bool true := hdep 126 (by kernel_rfl)
            refine if_yes ((wanted_is (j := 27) (b := true) (by kernel_rfl) (by kernel_rfl) h126).trans rfl) ?_
            simp [go_sem, hge, hgeP]
            refine (awake9 _).mono ?_
            rintro e wG ⟨rfl, hbG⟩
            exact hK.out _ _ hbG rfl
          · intro A wx hR hout hdep K hK
            have h126 : A.tmps[126]?.getD undef = .bool true := hdep 126 (by kernel_rfl)
            have h127 : A.tmps[127]?.getD undef = .bool true := hdep 127 (by kernel_rfl)
            refine if_yes (by kernel_rfl) ?_
            simp [go_sem, h126, h127, hge, hgeP]
            exact hK.out _ _ (Below.refl _ _) rfl
          · intro A wx hR hout hdep K hK
            have h128 : A.tmps[128]?.getD undef = .bool true := hdep 128 (by kernel_rfl)
            refine if_yes (by kernel_rfl) ?_
            simp [go_sem, h128, hge, hgeP]
            exact hK.out _ _ (Below.refl _ _) rfl
          simp only [putSl, Act.put, List.setIfInBounds_toArray, List.set_cons_zero, List.set_cons_succ]
          have hz : f 8 = .bool true := hf 8 (by kernel_rfl)
          rw [hz]
          go_wp2
          go_ret
          exact ⟨rfl, below_tr HB.out (below_tr tz hR)⟩
  · have hj4 : (j1 == 0) = false := by simp [hj0]
    have hj5 : (j1 = 0) = False := by simp [hj0]
    go_wp2
    go_loopw [81] (fun i wr => ∃ k : Nat, k ≤ np ∧ i = .int .i64 (k : Int) ∧ Below W5.heap.size W5 wr) (fun i _ => np - (intOf i).toNat)
    case atStart => exact ⟨0, Nat.zero_le _, rfl, Below.refl _ _⟩
    case round =>
      obtain ⟨k, hk, rfl, hbr⟩ := hrel
      have D0 := D0.keep hbr
      have D1 := D1.keep hbr
      obtain ⟨c0, c1, c2, c3⟩ := D0.cells
      obtain ⟨u0, u1, u2, u3⟩ := D1.cells
      by_cases hkl : k < np
      · obtain ⟨b, o, b', o', p, r, rfl, rfl, d0, d1, d0', d1'⟩ := HX.out wr hbr k hkl
        have hbb : Below W5.heap.size W5 wr := hbr
        clear HS HS5 HX HE HS1 HQ HF
        go_wp2
        go_region_held3 (fun w' => Below W5.heap.size W5 w' ∧ w'.cell? ⟨nB, 3, none⟩ = some (.slice (some ⟨b', o', none⟩) np pp') ∧ w'.cell? ⟨nG, 3, none⟩ = some (.slice (some ⟨b, o, none⟩) np pp) ∧ w'.cell? ⟨b, o + k * 2, none⟩ = some (.int .u32 (p : Int)) ∧ w'.cell? ⟨b, o + k * 2 + 1, none⟩ = some (.int .i64 r) ∧ w'.cell? ⟨b', o' + k * 2, none⟩ = some (.int .u32 (p : Int)) ∧ w'.cell? ⟨b', o' + k * 2 + 1, none⟩ = some (.int .i64 r)) (refine ⟨?_, ?_, ?_, ?_, ?_, ?_, ?_⟩ <;> first | (with_reducible refine Free.cell ?_; (repeat (first | with_reducible assumption | with_reducible refine Free.drew ?_ | with_reducible refine Free.alloc ?_ _ | with_reducible refine Free.set ?_ _ _ | with_reducible refine Free.keep (by with_reducible assumption) ?_)); done) | (with_reducible refine Free.frozen ?_; (repeat (first | with_reducible assumption | with_reducible refine Free.drew ?_ | with_reducible refine Free.alloc ?_ _ | with_reducible refine Free.set ?_ _ _ | with_reducible refine Free.keep (by with_reducible assumption) ?_)); done) | ((repeat (first | with_reducible assumption | with_reducible exact Below.refl _ _ | with_reducible refine Below.drew ?_ | with_reducible refine below_alloc ?_ _ | (with_reducible refine below_set ?_ ?_ _; rotate_left; focus (first | (simp; done) | (simp; omega))) | with_reducible refine below_tr ?_ (by with_reducible assumption))); done) | ((repeat (first | with_reducible assumption | with_reducible refine cell_drew ?_ | (with_reducible refine cell_newA _ _ _ _ _ _ ?_ rfl; (simp [*]; done)) | with_reducible refine cell_old ?_ _ | (with_reducible refine cell_far ?_ ?_ _; rotate_left; focus (first | (simp; done) | (simp; omega))) | with_reducible refine keep_cell (by with_reducible assumption) ?_)); done)) (fail)
        all_goals go_wp2
        go_roundw
        case rel => exact ⟨k + 1, by omega, by go_num, (by (repeat (first | with_reducible assumption | with_reducible exact Below.refl _ _ | with_reducible refine Below.drew ?_ | with_reducible refine below_alloc ?_ _ | (with_reducible refine below_set ?_ ?_ _; rotate_left; focus (first | (simp; done) | (simp; omega))) | with_reducible refine below_tr ?_ (by with_reducible assumption))))⟩
        case measure => simp [intOf]; omega
      · have hkn : np = k := by omega
        subst hkn
        have t6 := below_tr t5 hbr
        have hs6 := HS5.out.keep hbr
        clear HX
        have K26 := rplace17 (.slice am nm pm) (.slice ac nc pc) (.slice ap np pp) bs a hbsl ha wr ⟨_, _, _, rfl⟩ ⟨_, _, _, rfl⟩ ⟨_, _, _, rfl⟩
        obtain ⟨at_, hat⟩ : ∃ z, z = bs + a := ⟨_, rfl⟩
        rw [← hat] at K26 HE
        have hats : at_ < 18446744073709551616 := by omega
        clear hat
        go_wp2_with fail
        refine K26.mono ?_
        rintro e W7 ⟨rfl, hb7⟩
        clear K26
        have tz := below_tr t6 hb7
        have c0 := keep_cell hb7 c0
        have c1 := keep_cell hb7 c1
        have c2 := keep_cell hb7 c2
        have c3 := keep_cell hb7 c3
        have u0 := keep_cell hb7 u0
        have u1 := keep_cell hb7 u1
        have u2 := keep_cell hb7 u2
        have u3 := keep_cell hb7 u3
        have hs7 := hs6.keep hb7
        have KF : Hid (∀ w', Below W7.heap.size W7 w' → Calls Try.prog 25 #[.agg #[.slice am' nm' pm', .slice ac' nc' pc', .int .u64 (bs : Int), .slice ap' np pp']] w' fun e w'' => e = .returned (.bool true) ∧ Below w'.heap.size w' w'') := fun w' hb' => by
          have h := rfit11 _ _ _ ms cs' ps bs w' (hs7.keep hb') HF.out.2.2.1 hbs
          rw [fitGB_yes HF.out.1] at h
          exact h
        obtain ⟨pk, hpk⟩ : ∃ z, z = peekN cs other := ⟨_, rfl⟩
        have KP : Hid (∀ w', Below W7.heap.size W7 w' → Calls Try.prog 27 #[.agg #[.slice am nm pm, .slice ac nc pc], .int .u64 (other : Int)] w' fun e w'' => e = .returned (.int .u8 (pk : Int)) ∧ Below w'.heap.size w' w'') := fun w' hb' => by
          rw [hpk]
          exact peek26 _ _ cs other w' ⟨_, _, _, rfl⟩ ((HS.out W7 tz).keep hb').2.1 HF.out.2.2.2 hot
        have KP' : Hid (¬ (at_ ≤ other ∧ other < at_ + s.size) → ∀ w', Below W7.heap.size W7 w' → Calls Try.prog 27 #[.agg #[.slice am' nm' pm', .slice ac' nc' pc'], .int .u64 (other : Int)] w' fun e w'' => e = .returned (.int .u8 (pk : Int)) ∧ Below w'.heap.size w' w'') := fun hno w' hb' => by
          rw [hpk, ← HE.out other hno]
          exact peek26 _ _ cs' other w' ⟨_, _, _, rfl⟩ (hs7.keep hb').2.1 HF.out.2.1 hot
        clear hpk hs6 hs7 HS HS5 HE HQ HF HS1
        go_wp2
        by_cases hge0 : at_ ≤ other
        · obtain ⟨dif, hdif⟩ : ∃ z, z = other - at_ := ⟨_, rfl⟩
          have hsub : IntKind.u64.wrap ((other : Int) - (at_ : Int)) = (dif : Int) := by rw [IntKind.wrap_u64]; omega
          have hsub2 : ((other : Int) - (at_ : Int)) % 18446744073709551616 = (dif : Int) := by omega
          have hcv : IntKind.u64.wrap (s.size : Int) = (s.size : Int) := by rw [IntKind.wrap_u64]; omega
          have hge : decide ((at_ : Int) ≤ (other : Int)) = true := by simp; omega
          have hgeP : (at_ ≤ other) = True := by simp; omega
          by_cases hlt0 : dif < s.size
          · have hlt : decide ((dif : Int) < (s.size : Int)) = true := by simp; omega
            have hltP : (dif < s.size) = True := by simp; omega
            clear hge0 hlt0 hdif KP KP'
            refine wp_region_slots (R := Ext) [⟨99, fun v _ => v = .int .u64 (other : Int), fun _ _ _ _ h => h⟩, ⟨100, fun v _ => v = .int .u64 (at_ : Int), fun _ _ _ _ h => h⟩, ⟨101, fun v _ => v = .bool true, fun _ _ _ _ h => h⟩, ⟨102, fun v _ => v = .bool true, fun _ _ _ _ h => h⟩, ⟨103, fun v _ => v = .int .u64 (other : Int), fun _ _ _ _ h => h⟩, ⟨104, fun v _ => v = .int .u64 (at_ : Int), fun _ _ _ _ h => h⟩, ⟨105, fun v _ => v = .int .u64 (dif : Int), fun _ _ _ _ h => h⟩, ⟨106, fun v _ => v = .string s, fun _ _ _ _ h => h⟩, ⟨107, fun v _ => v = .int .i64 (s.size : Int), fun _ _ _ _ h => h⟩, ⟨108, fun v _ => v = .int .u64 (s.size : Int), fun _ _ _ _ h => h⟩, ⟨109, fun v _ => v = .bool true, fun _ _ _ _ h => h⟩, ⟨110, fun v _ => v = .bool true, fun _ _ _ _ h => h⟩, ⟨111, fun v _ => v = .bool true, fun _ _ _ _ h => h⟩, ⟨112, fun v _ => v = undef, fun _ _ _ _ h => h⟩, ⟨113, fun v _ => v = undef, fun _ _ _ _ h => h⟩, ⟨114, fun v _ => v = undef, fun _ _ _ _ h => h⟩, ⟨115, fun v _ => v = undef, fun _ _ _ _ h => h⟩, ⟨116, fun v _ => v = undef, fun _ _ _ _ h => h⟩, ⟨117, fun v _ => v = undef, fun _ _ _ _ h => h⟩, ⟨118, fun v _ => v = undef, fun _ _ _ _ h => h⟩, ⟨119, fun v _ => v = undef, fun _ _ _ _ h => h⟩, ⟨120, fun v _ => v = undef, fun _ _ _ _ h => h⟩, ⟨121, fun v _ => v = .bool true, fun _ _ _ _ h => h⟩, ⟨122, fun v _ => v = .bool true, fun _ _ _ _ h => h⟩, ⟨123, fun v _ => v = .agg #[.slice am' nm' pm', .slice ac' nc' pc', .int .u64 (bs : Int), .slice ap' np pp'], fun _ _ _ _ h => h⟩, ⟨124, fun v _ => v = .bool true, fun _ _ _ _ h => h⟩, ⟨125, fun v _ => v = .bool true, fun _ _ _ _ h => h⟩, ⟨126, fun v _ => v = .bool true, fun _ _ _ _ h => h⟩, ⟨127, fun v _ => v = .bool true, fun _ _ _ _ h => h⟩, ⟨128, fun v _ => v = .bool true, fun _ _ _ _ h => h⟩, ⟨8, fun v _ => v = .bool true, fun _ _ _ _ h => h⟩] _ (by kernel_rfl) rfl (by kernel_rfl) (Below.drew (Below.refl _ _)) (fun _ _ _ h1 h2 => below_tr h1 h2) (fun QQ => ⟨?_, ?_, ?_, ?_, ?_, ?_, ?_, ?_, ?_, ?_, ?_, ?_, ?_, ?_, ?_, ?_, ?_, ?_, ?_, ?_, ?_, ?_, ?_, ?_, ?_, ?_, ?_, ?_, ?_, ?_, ?_, trivial⟩) (fun f wy hR hf => ?_)
            · intro A wx hR hout hdep K hK
              have h3 : A.tmps[3]?.getD undef = .int .u64 (other : Int) := hout 3 (by kernel_rfl)
              refine if_yes (by kernel_rfl) ?_
              simp [go_sem, h3, hsub, hsub2, hlt, hge, hcv, hgeP, hltP]
              exact hK.out _ _ (Below.refl _ _) rfl
            · intro A wx hR hout hdep K hK
              have h14 : A.tmps[14]?.getD undef = .int .u64 (at_ : Int) := hout 14 (by kernel_rfl)
              refine if_yes (by kernel_rfl) ?_
              simp [go_sem, h14, hsub, hsub2, hlt, hge, hcv, hgeP, hltP]
              exact hK.out _ _ (Below.refl _ _) rfl
            · intro A wx hR hout hdep K hK
              have h99 : A.tmps[99]?.getD undef = .int .u64 (other : Int) := hdep 99 (by kernel_rfl)
              have h100 : A.tmps[100]?.getD undef = .int .u64 (at_ : Int) := hdep 100 (by kernel_rfl)
              refine if_yes (by kernel_rfl) ?_
              simp [go_sem, h99, h100, hsub, hsub2, hlt, hge, hcv, hgeP, hltP]
              exact hK.out _ _ (Below.refl _ _) rfl
            · intro A wx hR hout hdep K hK
              have h101 : A.tmps[101]?.getD undef = .bool true := hdep 101 (by kernel_rfl)
              refine if_yes (by kernel_rfl) ?_
              simp [go_sem, h101, hsub, hsub2, hlt, hge, hcv, hgeP, hltP]
              exact hK.out _ _ (Below.refl _ _) rfl
            · intro A wx hR hout hdep K hK
              have h3 : A.tmps[3]?.getD undef = .int .u64 (other : Int) := hout 3 (by kernel_rfl)
              have h102 : A.tmps[102]?.getD undef = .bool true := hdep 102 (by kernel_rfl)
              refine if_yes ((wanted_is (j := 3) (b := true) (by kernel_rfl) (by kernel_rfl) h102).trans rfl) ?_
              simp [go_sem, h3, hsub, hsub2, hlt, hge, hcv, hgeP, hltP]
              exact hK.out _ _ (Below.refl _ _) rfl
            · intro A wx hR hout hdep K hK
              have h14 : A.tmps[14]?.getD undef = .int .u64 (at_ : Int) := hout 14 (by kernel_rfl)
              have h102 : A.tmps[102]?.getD undef = .bool true := hdep 102 (by kernel_rfl)
              refine if_yes ((wanted_is (j := 3) (b := true) (by kernel_rfl) (by kernel_rfl) h102).trans rfl) ?_
              simp [go_sem, h14, hsub, hsub2, hlt, hge, hcv, hgeP, hltP]
              exact hK.out _ _ (Below.refl _ _) rfl
            · intro A wx hR hout hdep K hK
              have h103 : A.tmps[103]?.getD undef = .int .u64 (other : Int) := hdep 103 (by kernel_rfl)
              have h104 : A.tmps[104]?.getD undef = .int .u64 (at_ : Int) := hdep 104 (by kernel_rfl)
              have h102 : A.tmps[102]?.getD undef = .bool true := hdep 102 (by kernel_rfl)
              refine if_yes ((wanted_is (j := 3) (b := true) (by kernel_rfl) (by kernel_rfl) h102).trans rfl) ?_
              simp [go_sem, h103, h104, hsub, hsub2, hlt, hge, hcv, hgeP, hltP]
              exact hK.out _ _ (Below.refl _ _) rfl
            · intro A wx hR hout hdep K hK
              have h2 : A.tmps[2]?.getD undef = .string s := hout 2 (by kernel_rfl)
              have h102 : A.tmps[102]?.getD undef = .bool true := hdep 102 (by kernel_rfl)
              refine if_yes ((wanted_is (j := 3) (b := true) (by kernel_rfl) (by kernel_rfl) h102).trans rfl) ?_
              simp [go_sem, h2, hsub, hsub2, hlt, hge, hcv, hgeP, hltP]
              exact hK.out _ _ (Below.refl _ _) rfl
            · intro A wx hR hout hdep K hK
              have h106 : A.tmps[106]?.getD undef = .string s := hdep 106 (by kernel_rfl)
              have h102 : A.tmps[102]?.getD undef = .bool true := hdep 102 (by kernel_rfl)
              refine if_yes ((wanted_is (j := 3) (b := true) (by kernel_rfl) (by kernel_rfl) h102).trans rfl) ?_
              simp [go_sem, h106, hsub, hsub2, hlt, hge, hcv, hgeP, hltP]
              exact hK.out _ _ (Below.refl _ _) rfl
            · intro A wx hR hout hdep K hK
              have h107 : A.tmps[107]?.getD undef = .int .i64 (s.size : Int) := hdep 107 (by kernel_rfl)
              have h102 : A.tmps[102]?.getD undef = .bool true := hdep 102 (by kernel_rfl)
              refine if_yes ((wanted_is (j := 3) (b := true) (by kernel_rfl) (by kernel_rfl) h102).trans rfl) ?_
              simp [go_sem, h107, hsub, hsub2, hlt, hge, hcv, hgeP, hltP]
              exact hK.out _ _ (Below.refl _ _) rfl
            · intro A wx hR hout hdep K hK
              have h105 : A.tmps[105]?.getD undef = .int .u64 (dif : Int) := hdep 105 (by kernel_rfl)
              have h108 : A.tmps[108]?.getD undef = .int .u64 (s.size : Int) := hdep 108 (by kernel_rfl)
              have h102 : A.tmps[102]?.getD undef = .bool true := hdep 102 (by kernel_rfl)
              refine if_yes ((wanted_is (j := 3) (b := true) (by kernel_rfl) (by kernel_rfl) h102).trans rfl) ?_
              simp [go_sem, h105, h108, hsub, hsub2, hlt, hge, hcv, hgeP, hltP]
              exact hK.out _ _ (Below.refl _ _) rfl
            · intro A wx hR hout hdep K hK
              have h102 : A.tmps[102]?.getD undef = .bool true := hdep 102 (by kernel_rfl)
              have h109 : A.tmps[109]?.getD undef = .bool true := hdep 109 (by kernel_rfl)
              refine if_yes (by kernel_rfl) ?_
              simp [go_sem, h102, h109, hsub, hsub2, hlt, hge, hcv, hgeP, hltP]
              exact hK.out _ _ (Below.refl _ _) rfl
            · intro A wx hR hout hdep K hK
              have h110 : A.tmps[110]?.getD undef = .bool true := hdep 110 (by kernel_rfl)
              refine if_yes (by kernel_rfl) ?_
              simp [go_sem, h110, hsub, hsub2, hlt, hge, hcv, hgeP, hltP]
              exact hK.out _ _ (Below.refl _ _) rfl
            · intro A wx hR hout hdep K hK
              have h9 : A.tmps[9]?.getD undef = .pointer (some ⟨nB, 0, none⟩) := hout 9 (by kernel_rfl)
              have h111 : A.tmps[111]?.getD undef = .bool true := hdep 111 (by kernel_rfl)
              refine if_not (by rw [wanted_is (j := 12) (b := false) (by kernel_rfl) (by kernel_rfl) h111]; decide) ?_
              exact hK.out _ _ (Below.refl _ _) rfl
            · intro A wx hR hout hdep K hK
              have h112 : A.tmps[112]?.getD undef = undef := hdep 112 (by kernel_rfl)
              have h111 : A.tmps[111]?.getD undef = .bool true := hdep 111 (by kernel_rfl)
              refine if_not (by rw [wanted_is (j := 12) (b := false) (by kernel_rfl) (by kernel_rfl) h111]; decide) ?_
              exact hK.out _ _ (Below.refl _ _) rfl
            · intro A wx hR hout hdep K hK
              have h3 : A.tmps[3]?.getD undef = .int .u64 (other : Int) := hout 3 (by kernel_rfl)
              have h111 : A.tmps[111]?.getD undef = .bool true := hdep 111 (by kernel_rfl)
              refine if_not (by rw [wanted_is (j := 12) (b := false) (by kernel_rfl) (by kernel_rfl) h111]; decide) ?_
              exact hK.out _ _ (Below.refl _ _) rfl
            · intro A wx hR hout hdep K hK
              have h113 : A.tmps[113]?.getD undef = undef := hdep 113 (by kernel_rfl)
              have h114 : A.tmps[114]?.getD undef = undef := hdep 114 (by kernel_rfl)
              have h111 : A.tmps[111]?.getD undef = .bool true := hdep 111 (by kernel_rfl)
              refine if_not (by rw [wanted_is (j := 12) (b := false) (by kernel_rfl) (by kernel_rfl) h111]; decide) ?_
              exact hK.out _ _ (Below.refl _ _) rfl
            · intro A wx hR hout hdep K hK
              have h4 : A.tmps[4]?.getD undef = .pointer (some ⟨nG, 0, none⟩) := hout 4 (by kernel_rfl)
              have h111 : A.tmps[111]?.getD undef = .bool true := hdep 111 (by kernel_rfl)
              refine if_not (by rw [wanted_is (j := 12) (b := false) (by kernel_rfl) (by kernel_rfl) h111]; decide) ?_
              exact hK.out _ _ (Below.refl _ _) rfl
            · intro A wx hR hout hdep K hK
              have h116 : A.tmps[116]?.getD undef = undef := hdep 116 (by kernel_rfl)
              have h111 : A.tmps[111]?.getD undef = .bool true := hdep 111 (by kernel_rfl)
              refine if_not (by rw [wanted_is (j := 12) (b := false) (by kernel_rfl) (by kernel_rfl) h111]; decide) ?_
              exact hK.out _ _ (Below.refl _ _) rfl
            · intro A wx hR hout hdep K hK
              have h3 : A.tmps[3]?.getD undef = .int .u64 (other : Int) := hout 3 (by kernel_rfl)
              have h111 : A.tmps[111]?.getD undef = .bool true := hdep 111 (by kernel_rfl)
              refine if_not (by rw [wanted_is (j := 12) (b := false) (by kernel_rfl) (by kernel_rfl) h111]; decide) ?_
              exact hK.out _ _ (Below.refl _ _) rfl
            · intro A wx hR hout hdep K hK
              have h117 : A.tmps[117]?.getD undef = undef := hdep 117 (by kernel_rfl)
              have h118 : A.tmps[118]?.getD undef = undef := hdep 118 (by kernel_rfl)
              have h111 : A.tmps[111]?.getD undef = .bool true := hdep 111 (by kernel_rfl)
              refine if_not (by rw [wanted_is (j := 12) (b := false) (by kernel_rfl) (by kernel_rfl) h111]; decide) ?_
              exact hK.out _ _ (Below.refl _ _) rfl
            · intro A wx hR hout hdep K hK
              have h115 : A.tmps[115]?.getD undef = undef := hdep 115 (by kernel_rfl)
              have h119 : A.tmps[119]?.getD undef = undef := hdep 119 (by kernel_rfl)
              have h111 : A.tmps[111]?.getD undef = .bool true := hdep 111 (by kernel_rfl)
              refine if_not (by rw [wanted_is (j := 12) (b := false) (by kernel_rfl) (by kernel_rfl) h111]; decide) ?_
              exact hK.out _ _ (Below.refl _ _) rfl
            · intro A wx hR hout hdep K hK
              have h111 : A.tmps[111]?.getD undef = .bool true := hdep 111 (by kernel_rfl)
              have h120 : A.tmps[120]?.getD undef = undef := hdep 120 (by kernel_rfl)
              refine if_yes (by kernel_rfl) ?_
              simp [go_sem, h111, h120, hsub, hsub2, hlt, hge, hcv, hgeP, hltP]
              exact hK.out _ _ (Below.refl _ _) rfl
            · intro A wx hR hout hdep K hK
              have h121 : A.tmps[121]?.getD undef = .bool true := hdep 121 (by kernel_rfl)
              refine if_yes (by kernel_rfl) ?_
              simp [go_sem, h121, hsub, hsub2, hlt, hge, hcv, hgeP, hltP]
              exact hK.out _ _ (Below.refl _ _) rfl
            · intro A wx hR hout hdep K hK
              have h9 : A.tmps[9]?.getD undef = .pointer (some ⟨nB, 0, none⟩) := hout 9 (by kernel_rfl)
              have h122 : A.tmps[122]?.getD undef = .bool true := hdep 122 (by kernel_rfl)
              refine if_yes ((wanted_is (j := 23) (b := true) (by kernel_rfl) (by kernel_rfl) h122).trans rfl) ?_
              have c0 := keep_cell hR c0
              have c1 := keep_cell hR c1
              have c2 := keep_cell hR c2
              have c3 := keep_cell hR c3
              have u0 := keep_cell hR u0
              have u1 := keep_cell hR u1
              have u2 := keep_cell hR u2
              have u3 := keep_cell hR u3
              simp [go_sem, h9, c0, c1, c2, c3, u0, u1, u2, u3, hsub, hsub2, hlt, hge, hcv, hgeP, hltP]
              exact hK.out _ _ (Below.refl _ _) rfl
            · intro A wx hR hout hdep K hK
              have h123 : A.tmps[123]?.getD undef = .agg #[.slice am' nm' pm', .slice ac' nc' pc', .int .u64 (bs : Int), .slice ap' np pp'] := hdep 123 (by kernel_rfl)
              have h122 : A.tmps[122]?.getD undef = .bool true := hdep 122 (by kernel_rfl)
              refine if_yes ((wanted_is (j := 23) (b := true) (by kernel_rfl) (by kernel_rfl) h122).trans rfl) ?_
              simp [go_sem, h123, hsub, hsub2, hlt, hge, hcv, hgeP, hltP]
              refine (KF.out _ hR).mono ?_
              rintro e wG ⟨rfl, hbG⟩
              exact hK.out _ _ hbG rfl
            · intro A wx hR hout hdep K hK
              have h122 : A.tmps[122]?.getD undef = .bool true := hdep 122 (by kernel_rfl)
              have h124 : A.tmps[124]?.getD undef = .bool true := hdep 124 (by kernel_rfl)
              refine if_yes (by kernel_rfl) ?_
              simp [go_sem, h122, h124, hsub, hsub2, hlt, hge, hcv, hgeP, hltP]
              exact hK.out _ _ (Below.refl _ _) rfl
            · intro A wx hR hout hdep K hK
              have h125 : A.tmps[125]?.getD undef = .bool true := hdep 125 (by kernel_rfl)
              refine if_yes (by kernel_rfl) ?_
              simp [go_sem, h125, hsub, hsub2, hlt, hge, hcv, hgeP, hltP]
              exact hK.out _ _ (Below.refl _ _) rfl
            · intro A wx hR hout hdep K hK
              have h126 : A.tmps[126]?.getD undef = .bool true := hdep 126 (by kernel_rfl)
              refine if_yes ((wanted_is (j := 27) (b := true) (by kernel_rfl) (by kernel_rfl) h126).trans rfl) ?_
              simp [go_sem, hsub, hsub2, hlt, hge, hcv, hgeP, hltP]
              refine (awake9 _).mono ?_
              rintro e wG ⟨rfl, hbG⟩
              exact hK.out _ _ hbG rfl
            · intro A wx hR hout hdep K hK
              have h126 : A.tmps[126]?.getD undef = .bool true := hdep 126 (by kernel_rfl)
              have h127 : A.tmps[127]?.getD undef = .bool true := hdep 127 (by kernel_rfl)
              refine if_yes (by kernel_rfl) ?_
              simp [go_sem, h126, h127, hsub, hsub2, hlt, hge, hcv, hgeP, hltP]
              exact hK.out _ _ (Below.refl _ _) rfl
            · intro A wx hR hout hdep K hK
              have h128 : A.tmps[128]?.getD undef = .bool true := hdep 128 (by kernel_rfl)
              refine if_yes (by kernel_rfl) ?_
              simp [go_sem, h128, hsub, hsub2, hlt, hge, hcv, hgeP, hltP]
              exact hK.out _ _ (Below.refl _ _) rfl
            simp only [putSl, Act.put, List.setIfInBounds_toArray, List.set_cons_zero, List.set_cons_succ]
            have hz : f 8 = .bool true := hf 8 (by kernel_rfl)
            rw [hz]
            go_wp2
            go_ret
            exact ⟨rfl, below_tr HB.out (below_tr tz hR)⟩
          · have hlt : decide ((dif : Int) < (s.size : Int)) = false := by simp; omega
            have hltP : (dif < s.size) = False := by simp; omega
            have KP' : Hid (∀ w', Below W7.heap.size W7 w' → Calls Try.prog 27 #[.agg #[.slice am' nm' pm', .slice ac' nc' pc'], .int .u64 (other : Int)] w' fun e w'' => e = .returned (.int .u8 (pk : Int)) ∧ Below w'.heap.size w' w'') := KP'.out (by omega)
            clear hge0 hlt0 hdif
            refine wp_region_slots (R := Ext) [⟨99, fun v _ => v = .int .u64 (other : Int), fun _ _ _ _ h => h⟩, ⟨100, fun v _ => v = .int .u64 (at_ : Int), fun _ _ _ _ h => h⟩, ⟨101, fun v _ => v = .bool true, fun _ _ _ _ h => h⟩, ⟨102, fun v _ => v = .bool true, fun _ _ _ _ h => h⟩, ⟨103, fun v _ => v = .int .u64 (other : Int), fun _ _ _ _ h => h⟩, ⟨104, fun v _ => v = .int .u64 (at_ : Int), fun _ _ _ _ h => h⟩, ⟨105, fun v _ => v = .int .u64 (dif : Int), fun _ _ _ _ h => h⟩, ⟨106, fun v _ => v = .string s, fun _ _ _ _ h => h⟩, ⟨107, fun v _ => v = .int .i64 (s.size : Int), fun _ _ _ _ h => h⟩, ⟨108, fun v _ => v = .int .u64 (s.size : Int), fun _ _ _ _ h => h⟩, ⟨109, fun v _ => v = .bool false, fun _ _ _ _ h => h⟩, ⟨110, fun v _ => v = .bool false, fun _ _ _ _ h => h⟩, ⟨111, fun v _ => v = .bool false, fun _ _ _ _ h => h⟩, ⟨112, fun v _ => v = .pointer (some ⟨nB, 0, none⟩), fun _ _ _ _ h => h⟩, ⟨113, fun v _ => v = .agg #[.slice am' nm' pm', .slice ac' nc' pc'], fun _ _ _ _ h => h⟩, ⟨114, fun v _ => v = .int .u64 (other : Int), fun _ _ _ _ h => h⟩, ⟨115, fun v _ => v = .int .u8 (pk : Int), fun _ _ _ _ h => h⟩, ⟨116, fun v _ => v = .pointer (some ⟨nG, 0, none⟩), fun _ _ _ _ h => h⟩, ⟨117, fun v _ => v = .agg #[.slice am nm pm, .slice ac nc pc], fun _ _ _ _ h => h⟩, ⟨118, fun v _ => v = .int .u64 (other : Int), fun _ _ _ _ h => h⟩, ⟨119, fun v _ => v = .int .u8 (pk : Int), fun _ _ _ _ h => h⟩, ⟨120, fun v _ => v = .bool true, fun _ _ _ _ h => h⟩, ⟨121, fun v _ => v = .bool true, fun _ _ _ _ h => h⟩, ⟨122, fun v _ => v = .bool true, fun _ _ _ _ h => h⟩, ⟨123, fun v _ => v = .agg #[.slice am' nm' pm', .slice ac' nc' pc', .int .u64 (bs : Int), .slice ap' np pp'], fun _ _ _ _ h => h⟩, ⟨124, fun v _ => v = .bool true, fun _ _ _ _ h => h⟩, ⟨125, fun v _ => v = .bool true, fun _ _ _ _ h => h⟩, ⟨126, fun v _ => v = .bool true, fun _ _ _ _ h => h⟩, ⟨127, fun v _ => v = .bool true, fun _ _ _ _ h => h⟩, ⟨128, fun v _ => v = .bool true, fun _ _ _ _ h => h⟩, ⟨8, fun v _ => v = .bool true, fun _ _ _ _ h => h⟩] _ (by kernel_rfl) rfl (by kernel_rfl) (Below.drew (Below.refl _ _)) (fun _ _ _ h1 h2 => below_tr h1 h2) (fun QQ => ⟨?_, ?_, ?_, ?_, ?_, ?_, ?_, ?_, ?_, ?_, ?_, ?_, ?_, ?_, ?_, ?_, ?_, ?_, ?_, ?_, ?_, ?_, ?_, ?_, ?_, ?_, ?_, ?_, ?_, ?_, ?_, trivial⟩) (fun f wy hR hf => ?_)
            · intro A wx hR hout hdep K hK
              have h3 : A.tmps[3]?.getD undef = .int .u64 (other : Int) := hout 3 (by kernel_rfl)
              refine if_yes (by kernel_rfl) ?_
              simp [go_sem, h3, hsub, hsub2, hlt, hge, hcv, hgeP, hltP]
              exact hK.out _ _ (Below.refl _ _) rfl
            · intro A wx hR hout hdep K hK
              have h14 : A.tmps[14]?.getD undef = .int .u64 (at_ : Int) := hout 14 (by kernel_rfl)
              refine if_yes (by kernel_rfl) ?_
              simp [go_sem, h14, hsub, hsub2, hlt, hge, hcv, hgeP, hltP]
              exact hK.out _ _ (Below.refl _ _) rfl
            · intro A wx hR hout hdep K hK
              have h99 : A.tmps[99]?.getD undef = .int .u64 (other : Int) := hdep 99 (by kernel_rfl)
              have h100 : A.tmps[100]?.getD undef = .int .u64 (at_ : Int) := hdep 100 (by kernel_rfl)
              refine if_yes (by kernel_rfl) ?_
              simp [go_sem, h99, h100, hsub, hsub2, hlt, hge, hcv, hgeP, hltP]
              exact hK.out _ _ (Below.refl _ _) rfl
            · intro A wx hR hout hdep K hK
              have h101 : A.tmps[101]?.getD undef = .bool true := hdep 101 (by kernel_rfl)
              refine if_yes (by kernel_rfl) ?_
              simp [go_sem, h101, hsub, hsub2, hlt, hge, hcv, hgeP, hltP]
              exact hK.out _ _ (Below.refl _ _) rfl
            · intro A wx hR hout hdep K hK
              have h3 : A.tmps[3]?.getD undef = .int .u64 (other : Int) := hout 3 (by kernel_rfl)
              have h102 : A.tmps[102]?.getD undef = .bool true := hdep 102 (by kernel_rfl)
              refine if_yes ((wanted_is (j := 3) (b := true) (by kernel_rfl) (by kernel_rfl) h102).trans rfl) ?_
              simp [go_sem, h3, hsub, hsub2, hlt, hge, hcv, hgeP, hltP]
              exact hK.out _ _ (Below.refl _ _) rfl
            · intro A wx hR hout hdep K hK
              have h14 : A.tmps[14]?.getD undef = .int .u64 (at_ : Int) := hout 14 (by kernel_rfl)
              have h102 : A.tmps[102]?.getD undef = .bool true := hdep 102 (by kernel_rfl)
              refine if_yes ((wanted_is (j := 3) (b := true) (by kernel_rfl) (by kernel_rfl) h102).trans rfl) ?_
              simp [go_sem, h14, hsub, hsub2, hlt, hge, hcv, hgeP, hltP]
              exact hK.out _ _ (Below.refl _ _) rfl
            · intro A wx hR hout hdep K hK
              have h103 : A.tmps[103]?.getD undef = .int .u64 (other : Int) := hdep 103 (by kernel_rfl)
              have h104 : A.tmps[104]?.getD undef = .int .u64 (at_ : Int) := hdep 104 (by kernel_rfl)
              have h102 : A.tmps[102]?.getD undef = .bool true := hdep 102 (by kernel_rfl)
              refine if_yes ((wanted_is (j := 3) (b := true) (by kernel_rfl) (by kernel_rfl) h102).trans rfl) ?_
              simp [go_sem, h103, h104, hsub, hsub2, hlt, hge, hcv, hgeP, hltP]
              exact hK.out _ _ (Below.refl _ _) rfl
            · intro A wx hR hout hdep K hK
              have h2 : A.tmps[2]?.getD undef = .string s := hout 2 (by kernel_rfl)
              have h102 : A.tmps[102]?.getD undef = .bool true := hdep 102 (by kernel_rfl)
              refine if_yes ((wanted_is (j := 3) (b := true) (by kernel_rfl) (by kernel_rfl) h102).trans rfl) ?_
              simp [go_sem, h2, hsub, hsub2, hlt, hge, hcv, hgeP, hltP]
              exact hK.out _ _ (Below.refl _ _) rfl
            · intro A wx hR hout hdep K hK
              have h106 : A.tmps[106]?.getD undef = .string s := hdep 106 (by kernel_rfl)
              have h102 : A.tmps[102]?.getD undef = .bool true := hdep 102 (by kernel_rfl)
              refine if_yes ((wanted_is (j := 3) (b := true) (by kernel_rfl) (by kernel_rfl) h102).trans rfl) ?_
              simp [go_sem, h106, hsub, hsub2, hlt, hge, hcv, hgeP, hltP]
              exact hK.out _ _ (Below.refl _ _) rfl
            · intro A wx hR hout hdep K hK
              have h107 : A.tmps[107]?.getD undef = .int .i64 (s.size : Int) := hdep 107 (by kernel_rfl)
              have h102 : A.tmps[102]?.getD undef = .bool true := hdep 102 (by kernel_rfl)
              refine if_yes ((wanted_is (j := 3) (b := true) (by kernel_rfl) (by kernel_rfl) h102).trans rfl) ?_
              simp [go_sem, h107, hsub, hsub2, hlt, hge, hcv, hgeP, hltP]
              exact hK.out _ _ (Below.refl _ _) rfl
            · intro A wx hR hout hdep K hK
              have h105 : A.tmps[105]?.getD undef = .int .u64 (dif : Int) := hdep 105 (by kernel_rfl)
              have h108 : A.tmps[108]?.getD undef = .int .u64 (s.size : Int) := hdep 108 (by kernel_rfl)
              have h102 : A.tmps[102]?.getD undef = .bool true := hdep 102 (by kernel_rfl)
              refine if_yes ((wanted_is (j := 3) (b := true) (by kernel_rfl) (by kernel_rfl) h102).trans rfl) ?_
              simp [go_sem, h105, h108, hsub, hsub2, hlt, hge, hcv, hgeP, hltP]
              exact hK.out _ _ (Below.refl _ _) rfl
            · intro A wx hR hout hdep K hK
              have h102 : A.tmps[102]?.getD undef = .bool true := hdep 102 (by kernel_rfl)
              have h109 : A.tmps[109]?.getD undef = .bool false := hdep 109 (by kernel_rfl)
              refine if_yes (by kernel_rfl) ?_
              simp [go_sem, h102, h109, hsub, hsub2, hlt, hge, hcv, hgeP, hltP]
              exact hK.out _ _ (Below.refl _ _) rfl
            · intro A wx hR hout hdep K hK
              have h110 : A.tmps[110]?.getD undef = .bool false := hdep 110 (by kernel_rfl)
              refine if_yes (by kernel_rfl) ?_
              simp [go_sem, h110, hsub, hsub2, hlt, hge, hcv, hgeP, hltP]
              exact hK.out _ _ (Below.refl _ _) rfl
            · intro A wx hR hout hdep K hK
              have h9 : A.tmps[9]?.getD undef = .pointer (some ⟨nB, 0, none⟩) := hout 9 (by kernel_rfl)
              have h111 : A.tmps[111]?.getD undef = .bool false := hdep 111 (by kernel_rfl)
              refine if_yes ((wanted_is (j := 12) (b := false) (by kernel_rfl) (by kernel_rfl) h111).trans rfl) ?_
              simp [go_sem, h9, hsub, hsub2, hlt, hge, hcv, hgeP, hltP]
              exact hK.out _ _ (Below.refl _ _) rfl
            · intro A wx hR hout hdep K hK
              have h112 : A.tmps[112]?.getD undef = .pointer (some ⟨nB, 0, none⟩) := hdep 112 (by kernel_rfl)
              have h111 : A.tmps[111]?.getD undef = .bool false := hdep 111 (by kernel_rfl)
              refine if_yes ((wanted_is (j := 12) (b := false) (by kernel_rfl) (by kernel_rfl) h111).trans rfl) ?_
              have c0 := keep_cell hR c0
              have c1 := keep_cell hR c1
              have c2 := keep_cell hR c2
              have c3 := keep_cell hR c3
              have u0 := keep_cell hR u0
              have u1 := keep_cell hR u1
              have u2 := keep_cell hR u2
              have u3 := keep_cell hR u3
              simp [go_sem, h112, c0, c1, c2, c3, u0, u1, u2, u3, hsub, hsub2, hlt, hge, hcv, hgeP, hltP]
              exact hK.out _ _ (Below.refl _ _) rfl
            · intro A wx hR hout hdep K hK
              have h3 : A.tmps[3]?.getD undef = .int .u64 (other : Int) := hout 3 (by kernel_rfl)
              have h111 : A.tmps[111]?.getD undef = .bool false := hdep 111 (by kernel_rfl)
              refine if_yes ((wanted_is (j := 12) (b := false) (by kernel_rfl) (by kernel_rfl) h111).trans rfl) ?_
              simp [go_sem, h3, hsub, hsub2, hlt, hge, hcv, hgeP, hltP]
              exact hK.out _ _ (Below.refl _ _) rfl
            · intro A wx hR hout hdep K hK
              have h113 : A.tmps[113]?.getD undef = .agg #[.slice am' nm' pm', .slice ac' nc' pc'] := hdep 113 (by kernel_rfl)
              have h114 : A.tmps[114]?.getD undef = .int .u64 (other : Int) := hdep 114 (by kernel_rfl)
              have h111 : A.tmps[111]?.getD undef = .bool false := hdep 111 (by kernel_rfl)
              refine if_yes ((wanted_is (j := 12) (b := false) (by kernel_rfl) (by kernel_rfl) h111).trans rfl) ?_
              simp [go_sem, h113, h114, hsub, hsub2, hlt, hge, hcv, hgeP, hltP]
              refine (KP'.out _ hR).mono ?_
              rintro e wG ⟨rfl, hbG⟩
              exact hK.out _ _ hbG rfl
            · intro A wx hR hout hdep K hK
              have h4 : A.tmps[4]?.getD undef = .pointer (some ⟨nG, 0, none⟩) := hout 4 (by kernel_rfl)
              have h111 : A.tmps[111]?.getD undef = .bool false := hdep 111 (by kernel_rfl)
              refine if_yes ((wanted_is (j := 12) (b := false) (by kernel_rfl) (by kernel_rfl) h111).trans rfl) ?_
              simp [go_sem, h4, hsub, hsub2, hlt, hge, hcv, hgeP, hltP]
              exact hK.out _ _ (Below.refl _ _) rfl
            · intro A wx hR hout hdep K hK
              have h116 : A.tmps[116]?.getD undef = .pointer (some ⟨nG, 0, none⟩) := hdep 116 (by kernel_rfl)
              have h111 : A.tmps[111]?.getD undef = .bool false := hdep 111 (by kernel_rfl)
              refine if_yes ((wanted_is (j := 12) (b := false) (by kernel_rfl) (by kernel_rfl) h111).trans rfl) ?_
              have c0 := keep_cell hR c0
              have c1 := keep_cell hR c1
              have c2 := keep_cell hR c2
              have c3 := keep_cell hR c3
              have u0 := keep_cell hR u0
              have u1 := keep_cell hR u1
              have u2 := keep_cell hR u2
              have u3 := keep_cell hR u3
              simp [go_sem, h116, c0, c1, c2, c3, u0, u1, u2, u3, hsub, hsub2, hlt, hge, hcv, hgeP, hltP]
              exact hK.out _ _ (Below.refl _ _) rfl
            · intro A wx hR hout hdep K hK
              have h3 : A.tmps[3]?.getD undef = .int .u64 (other : Int) := hout 3 (by kernel_rfl)
              have h111 : A.tmps[111]?.getD undef = .bool false := hdep 111 (by kernel_rfl)
              refine if_yes ((wanted_is (j := 12) (b := false) (by kernel_rfl) (by kernel_rfl) h111).trans rfl) ?_
              simp [go_sem, h3, hsub, hsub2, hlt, hge, hcv, hgeP, hltP]
              exact hK.out _ _ (Below.refl _ _) rfl
            · intro A wx hR hout hdep K hK
              have h117 : A.tmps[117]?.getD undef = .agg #[.slice am nm pm, .slice ac nc pc] := hdep 117 (by kernel_rfl)
              have h118 : A.tmps[118]?.getD undef = .int .u64 (other : Int) := hdep 118 (by kernel_rfl)
              have h111 : A.tmps[111]?.getD undef = .bool false := hdep 111 (by kernel_rfl)
              refine if_yes ((wanted_is (j := 12) (b := false) (by kernel_rfl) (by kernel_rfl) h111).trans rfl) ?_
              simp [go_sem, h117, h118, hsub, hsub2, hlt, hge, hcv, hgeP, hltP]
              refine (KP.out _ hR).mono ?_
              rintro e wG ⟨rfl, hbG⟩
              exact hK.out _ _ hbG rfl
            · intro A wx hR hout hdep K hK
              have h115 : A.tmps[115]?.getD undef = .int .u8 (pk : Int) := hdep 115 (by kernel_rfl)
              have h119 : A.tmps[119]?.getD undef = .int .u8 (pk : Int) := hdep 119 (by kernel_rfl)
              have h111 : A.tmps[111]?.getD undef = .bool false := hdep 111 (by kernel_rfl)
              refine if_yes ((wanted_is (j := 12) (b := false) (by kernel_rfl) (by kernel_rfl) h111).trans rfl) ?_
              simp [go_sem, h115, h119, hsub, hsub2, hlt, hge, hcv, hgeP, hltP]
              exact hK.out _ _ (Below.refl _ _) rfl
            · intro A wx hR hout hdep K hK
              have h111 : A.tmps[111]?.getD undef = .bool false := hdep 111 (by kernel_rfl)
              have h120 : A.tmps[120]?.getD undef = .bool true := hdep 120 (by kernel_rfl)
              refine if_yes (by kernel_rfl) ?_
              simp [go_sem, h111, h120, hsub, hsub2, hlt, hge, hcv, hgeP, hltP]
              exact hK.out _ _ (Below.refl _ _) rfl
            · intro A wx hR hout hdep K hK
              have h121 : A.tmps[121]?.getD undef = .bool true := hdep 121 (by kernel_rfl)
              refine if_yes (by kernel_rfl) ?_
              simp [go_sem, h121, hsub, hsub2, hlt, hge, hcv, hgeP, hltP]
              exact hK.out _ _ (Below.refl _ _) rfl
            · intro A wx hR hout hdep K hK
              have h9 : A.tmps[9]?.getD undef = .pointer (some ⟨nB, 0, none⟩) := hout 9 (by kernel_rfl)
              have h122 : A.tmps[122]?.getD undef = .bool true := hdep 122 (by kernel_rfl)
              refine if_yes ((wanted_is (j := 23) (b := true) (by kernel_rfl) (by kernel_rfl) h122).trans rfl) ?_
              have c0 := keep_cell hR c0
              have c1 := keep_cell hR c1
              have c2 := keep_cell hR c2
              have c3 := keep_cell hR c3
              have u0 := keep_cell hR u0
              have u1 := keep_cell hR u1
              have u2 := keep_cell hR u2
              have u3 := keep_cell hR u3
              simp [go_sem, h9, c0, c1, c2, c3, u0, u1, u2, u3, hsub, hsub2, hlt, hge, hcv, hgeP, hltP]
              exact hK.out _ _ (Below.refl _ _) rfl
            · intro A wx hR hout hdep K hK
              have h123 : A.tmps[123]?.getD undef = .agg #[.slice am' nm' pm', .slice ac' nc' pc', .int .u64 (bs : Int), .slice ap' np pp'] := hdep 123 (by kernel_rfl)
              have h122 : A.tmps[122]?.getD undef = .bool true := hdep 122 (by kernel_rfl)
              refine if_yes ((wanted_is (j := 23) (b := true) (by kernel_rfl) (by kernel_rfl) h122).trans rfl) ?_
              simp [go_sem, h123, hsub, hsub2, hlt, hge, hcv, hgeP, hltP]
              refine (KF.out _ hR).mono ?_
              rintro e wG ⟨rfl, hbG⟩
              exact hK.out _ _ hbG rfl
            · intro A wx hR hout hdep K hK
              have h122 : A.tmps[122]?.getD undef = .bool true := hdep 122 (by kernel_rfl)
              have h124 : A.tmps[124]?.getD undef = .bool true := hdep 124 (by kernel_rfl)
              refine if_yes (by kernel_rfl) ?_
              simp [go_sem, h122, h124, hsub, hsub2, hlt, hge, hcv, hgeP, hltP]
              exact hK.out _ _ (Below.refl _ _) rfl
            · intro A wx hR hout hdep K hK
              have h125 : A.tmps[125]?.getD undef = .bool true := hdep 125 (by kernel_rfl)
              refine if_yes (by kernel_rfl) ?_
              simp [go_sem, h125, hsub, hsub2, hlt, hge, hcv, hgeP, hltP]
              exact hK.out _ _ (Below.refl _ _) rfl
            · intro A wx hR hout hdep K hK
              have h126 : A.tmps[126]?.getD undef = .bool true := hdep 126 (by kernel_rfl)
              refine if_yes ((wanted_is (j := 27) (b := true) (by kernel_rfl) (by kernel_rfl) h126).trans rfl) ?_
              simp [go_sem, hsub, hsub2, hlt, hge, hcv, hgeP, hltP]
              refine (awake9 _).mono ?_
              rintro e wG ⟨rfl, hbG⟩
              exact hK.out _ _ hbG rfl
            · intro A wx hR hout hdep K hK
              have h126 : A.tmps[126]?.getD undef = .bool true := hdep 126 (by kernel_rfl)
              have h127 : A.tmps[127]?.getD undef = .bool true := hdep 127 (by kernel_rfl)
              refine if_yes (by kernel_rfl) ?_
              simp [go_sem, h126, h127, hsub, hsub2, hlt, hge, hcv, hgeP, hltP]
              exact hK.out _ _ (Below.refl _ _) rfl
            · intro A wx hR hout hdep K hK
              have h128 : A.tmps[128]?.getD undef = .bool true := hdep 128 (by kernel_rfl)
              refine if_yes (by kernel_rfl) ?_
              simp [go_sem, h128, hsub, hsub2, hlt, hge, hcv, hgeP, hltP]
              exact hK.out _ _ (Below.refl _ _) rfl
            simp only [putSl, Act.put, List.setIfInBounds_toArray, List.set_cons_zero, List.set_cons_succ]
            have hz : f 8 = .bool true := hf 8 (by kernel_rfl)
            rw [hz]
            go_wp2
            go_ret
            exact ⟨rfl, below_tr HB.out (below_tr tz hR)⟩
        · have hge : decide ((at_ : Int) ≤ (other : Int)) = false := by simp; omega
          have hgeP : (at_ ≤ other) = False := by simp; omega
          have KP' : Hid (∀ w', Below W7.heap.size W7 w' → Calls Try.prog 27 #[.agg #[.slice am' nm' pm', .slice ac' nc' pc'], .int .u64 (other : Int)] w' fun e w'' => e = .returned (.int .u8 (pk : Int)) ∧ Below w'.heap.size w' w'') := KP'.out (by omega)
          clear hge0
          refine wp_region_slots (R := Ext) [⟨99, fun v _ => v = .int .u64 (other : Int), fun _ _ _ _ h => h⟩, ⟨100, fun v _ => v = .int .u64 (at_ : Int), fun _ _ _ _ h => h⟩, ⟨101, fun v _ => v = .bool false, fun _ _ _ _ h => h⟩, ⟨102, fun v _ => v = .bool false, fun _ _ _ _ h => h⟩, ⟨103, fun v _ => v = undef, fun _ _ _ _ h => h⟩, ⟨104, fun v _ => v = undef, fun _ _ _ _ h => h⟩, ⟨105, fun v _ => v = undef, fun _ _ _ _ h => h⟩, ⟨106, fun v _ => v = undef, fun _ _ _ _ h => h⟩, ⟨107, fun v _ => v = undef, fun _ _ _ _ h => h⟩, ⟨108, fun v _ => v = undef, fun _ _ _ _ h => h⟩, ⟨109, fun v _ => v = undef, fun _ _ _ _ h => h⟩, ⟨110, fun v _ => v = .bool false, fun _ _ _ _ h => h⟩, ⟨111, fun v _ => v = .bool false, fun _ _ _ _ h => h⟩, ⟨112, fun v _ => v = .pointer (some ⟨nB, 0, none⟩), fun _ _ _ _ h => h⟩, ⟨113, fun v _ => v = .agg #[.slice am' nm' pm', .slice ac' nc' pc'], fun _ _ _ _ h => h⟩, ⟨114, fun v _ => v = .int .u64 (other : Int), fun _ _ _ _ h => h⟩, ⟨115, fun v _ => v = .int .u8 (pk : Int), fun _ _ _ _ h => h⟩, ⟨116, fun v _ => v = .pointer (some ⟨nG, 0, none⟩), fun _ _ _ _ h => h⟩, ⟨117, fun v _ => v = .agg #[.slice am nm pm, .slice ac nc pc], fun _ _ _ _ h => h⟩, ⟨118, fun v _ => v = .int .u64 (other : Int), fun _ _ _ _ h => h⟩, ⟨119, fun v _ => v = .int .u8 (pk : Int), fun _ _ _ _ h => h⟩, ⟨120, fun v _ => v = .bool true, fun _ _ _ _ h => h⟩, ⟨121, fun v _ => v = .bool true, fun _ _ _ _ h => h⟩, ⟨122, fun v _ => v = .bool true, fun _ _ _ _ h => h⟩, ⟨123, fun v _ => v = .agg #[.slice am' nm' pm', .slice ac' nc' pc', .int .u64 (bs : Int), .slice ap' np pp'], fun _ _ _ _ h => h⟩, ⟨124, fun v _ => v = .bool true, fun _ _ _ _ h => h⟩, ⟨125, fun v _ => v = .bool true, fun _ _ _ _ h => h⟩, ⟨126, fun v _ => v = .bool true, fun _ _ _ _ h => h⟩, ⟨127, fun v _ => v = .bool true, fun _ _ _ _ h => h⟩, ⟨128, fun v _ => v = .bool true, fun _ _ _ _ h => h⟩, ⟨8, fun v _ => v = .bool true, fun _ _ _ _ h => h⟩] _ (by kernel_rfl) rfl (by kernel_rfl) (Below.drew (Below.refl _ _)) (fun _ _ _ h1 h2 => below_tr h1 h2) (fun QQ => ⟨?_, ?_, ?_, ?_, ?_, ?_, ?_, ?_, ?_, ?_, ?_, ?_, ?_, ?_, ?_, ?_, ?_, ?_, ?_, ?_, ?_, ?_, ?_, ?_, ?_, ?_, ?_, ?_, ?_, ?_, ?_, trivial⟩) (fun f wy hR hf => ?_)
          · intro A wx hR hout hdep K hK
            have h3 : A.tmps[3]?.getD undef = .int .u64 (other : Int) := hout 3 (by kernel_rfl)
            refine if_yes (by kernel_rfl) ?_
            simp [go_sem, h3, hge, hgeP]
            exact hK.out _ _ (Below.refl _ _) rfl
          · intro A wx hR hout hdep K hK
            have h14 : A.tmps[14]?.getD undef = .int .u64 (at_ : Int) := hout 14 (by kernel_rfl)
            refine if_yes (by kernel_rfl) ?_
            simp [go_sem, h14, hge, hgeP]
            exact hK.out _ _ (Below.refl _ _) rfl
          · intro A wx hR hout hdep K hK
            have h99 : A.tmps[99]?.getD undef = .int .u64 (other : Int) := hdep 99 (by kernel_rfl)
            have h100 : A.tmps[100]?.getD undef = .int .u64 (at_ : Int) := hdep 100 (by kernel_rfl)
            refine if_yes (by kernel_rfl) ?_
            simp [go_sem, h99, h100, hge, hgeP]
            exact hK.out _ _ (Below.refl _ _) rfl
          · intro A wx hR hout hdep K hK
            have h101 : A.tmps[101]?.getD undef = .bool false := hdep 101 (by kernel_rfl)
            refine if_yes (by kernel_rfl) ?_
            simp [go_sem, h101, hge, hgeP]
            exact hK.out _ _ (Below.refl _ _) rfl
          · intro A wx hR hout hdep K hK
            have h3 : A.tmps[3]?.getD undef = .int .u64 (other : Int) := hout 3 (by kernel_rfl)
            have h102 : A.tmps[102]?.getD undef = .bool false := hdep 102 (by kernel_rfl)
            refine if_not (by rw [wanted_is (j := 3) (b := true) (by kernel_rfl) (by kernel_rfl) h102]; decide) ?_
            exact hK.out _ _ (Below.refl _ _) rfl
          · intro A wx hR hout hdep K hK
            have h14 : A.tmps[14]?.getD undef = .int .u64 (at_ : Int) := hout 14 (by kernel_rfl)
            have h102 : A.tmps[102]?.getD undef = .bool false := hdep 102 (by kernel_rfl)
            refine if_not (by rw [wanted_is (j := 3) (b := true) (by kernel_rfl) (by kernel_rfl) h102]; decide) ?_
            exact hK.out _ _ (Below.refl _ _) rfl
          · intro A wx hR hout hdep K hK
            have h103 : A.tmps[103]?.getD undef = undef := hdep 103 (by kernel_rfl)
            have h104 : A.tmps[104]?.getD undef = undef := hdep 104 (by kernel_rfl)
            have h102 : A.tmps[102]?.getD undef = .bool false := hdep 102 (by kernel_rfl)
            refine if_not (by rw [wanted_is (j := 3) (b := true) (by kernel_rfl) (by kernel_rfl) h102]; decide) ?_
            exact hK.out _ _ (Below.refl _ _) rfl
          · intro A wx hR hout hdep K hK
            have h2 : A.tmps[2]?.getD undef = .string s := hout 2 (by kernel_rfl)
            have h102 : A.tmps[102]?.getD undef = .bool false := hdep 102 (by kernel_rfl)
            refine if_not (by rw [wanted_is (j := 3) (b := true) (by kernel_rfl) (by kernel_rfl) h102]; decide) ?_
            exact hK.out _ _ (Below.refl _ _) rfl
          · intro A wx hR hout hdep K hK
            have h106 : A.tmps[106]?.getD undef = undef := hdep 106 (by kernel_rfl)
            have h102 : A.tmps[102]?.getD undef = .bool false := hdep 102 (by kernel_rfl)
            refine if_not (by rw [wanted_is (j := 3) (b := true) (by kernel_rfl) (by kernel_rfl) h102]; decide) ?_
            exact hK.out _ _ (Below.refl _ _) rfl
          · intro A wx hR hout hdep K hK
            have h107 : A.tmps[107]?.getD undef = undef := hdep 107 (by kernel_rfl)
            have h102 : A.tmps[102]?.getD undef = .bool false := hdep 102 (by kernel_rfl)
            refine if_not (by rw [wanted_is (j := 3) (b := true) (by kernel_rfl) (by kernel_rfl) h102]; decide) ?_
            exact hK.out _ _ (Below.refl _ _) rfl
          · intro A wx hR hout hdep K hK
            have h105 : A.tmps[105]?.getD undef = undef := hdep 105 (by kernel_rfl)
            have h108 : A.tmps[108]?.getD undef = undef := hdep 108 (by kernel_rfl)
            have h102 : A.tmps[102]?.getD undef = .bool false := hdep 102 (by kernel_rfl)
            refine if_not (by rw [wanted_is (j := 3) (b := true) (by kernel_rfl) (by kernel_rfl) h102]; decide) ?_
            exact hK.out _ _ (Below.refl _ _) rfl
          · intro A wx hR hout hdep K hK
            have h102 : A.tmps[102]?.getD undef = .bool false := hdep 102 (by kernel_rfl)
            have h109 : A.tmps[109]?.getD undef = undef := hdep 109 (by kernel_rfl)
            refine if_yes (by kernel_rfl) ?_
            simp [go_sem, h102, h109, hge, hgeP]
            exact hK.out _ _ (Below.refl _ _) rfl
          · intro A wx hR hout hdep K hK
            have h110 : A.tmps[110]?.getD undef = .bool false := hdep 110 (by kernel_rfl)
            refine if_yes (by kernel_rfl) ?_
            simp [go_sem, h110, hge, hgeP]
            exact hK.out _ _ (Below.refl _ _) rfl
          · intro A wx hR hout hdep K hK
            have h9 : A.tmps[9]?.getD undef = .pointer (some ⟨nB, 0, none⟩) := hout 9 (by kernel_rfl)
            have h111 : A.tmps[111]?.getD undef = .bool false := hdep 111 (by kernel_rfl)
            refine if_yes ((wanted_is (j := 12) (b := false) (by kernel_rfl) (by kernel_rfl) h111).trans rfl) ?_
            simp [go_sem, h9, hge, hgeP]
            exact hK.out _ _ (Below.refl _ _) rfl
          · intro A wx hR hout hdep K hK
            have h112 : A.tmps[112]?.getD undef = .pointer (some ⟨nB, 0, none⟩) := hdep 112 (by kernel_rfl)
            have h111 : A.tmps[111]?.getD undef = .bool false := hdep 111 (by kernel_rfl)
            refine if_yes ((wanted_is (j := 12) (b := false) (by kernel_rfl) (by kernel_rfl) h111).trans rfl) ?_
            have c0 := keep_cell hR c0
            have c1 := keep_cell hR c1
            have c2 := keep_cell hR c2
            have c3 := keep_cell hR c3
            have u0 := keep_cell hR u0
            have u1 := keep_cell hR u1
            have u2 := keep_cell hR u2
            have u3 := keep_cell hR u3
            simp [go_sem, h112, c0, c1, c2, c3, u0, u1, u2, u3, hge, hgeP]
            exact hK.out _ _ (Below.refl _ _) rfl
          · intro A wx hR hout hdep K hK
            have h3 : A.tmps[3]?.getD undef = .int .u64 (other : Int) := hout 3 (by kernel_rfl)
            have h111 : A.tmps[111]?.getD undef = .bool false := hdep 111 (by kernel_rfl)
            refine if_yes ((wanted_is (j := 12) (b := false) (by kernel_rfl) (by kernel_rfl) h111).trans rfl) ?_
            simp [go_sem, h3, hge, hgeP]
            exact hK.out _ _ (Below.refl _ _) rfl
          · intro A wx hR hout hdep K hK
            have h113 : A.tmps[113]?.getD undef = .agg #[.slice am' nm' pm', .slice ac' nc' pc'] := hdep 113 (by kernel_rfl)
            have h114 : A.tmps[114]?.getD undef = .int .u64 (other : Int) := hdep 114 (by kernel_rfl)
            have h111 : A.tmps[111]?.getD undef = .bool false := hdep 111 (by kernel_rfl)
            refine if_yes ((wanted_is (j := 12) (b := false) (by kernel_rfl) (by kernel_rfl) h111).trans rfl) ?_
            simp [go_sem, h113, h114, hge, hgeP]
            refine (KP'.out _ hR).mono ?_
            rintro e wG ⟨rfl, hbG⟩
            exact hK.out _ _ hbG rfl
          · intro A wx hR hout hdep K hK
            have h4 : A.tmps[4]?.getD undef = .pointer (some ⟨nG, 0, none⟩) := hout 4 (by kernel_rfl)
            have h111 : A.tmps[111]?.getD undef = .bool false := hdep 111 (by kernel_rfl)
            refine if_yes ((wanted_is (j := 12) (b := false) (by kernel_rfl) (by kernel_rfl) h111).trans rfl) ?_
            simp [go_sem, h4, hge, hgeP]
            exact hK.out _ _ (Below.refl _ _) rfl
          · intro A wx hR hout hdep K hK
            have h116 : A.tmps[116]?.getD undef = .pointer (some ⟨nG, 0, none⟩) := hdep 116 (by kernel_rfl)
            have h111 : A.tmps[111]?.getD undef = .bool false := hdep 111 (by kernel_rfl)
            refine if_yes ((wanted_is (j := 12) (b := false) (by kernel_rfl) (by kernel_rfl) h111).trans rfl) ?_
            have c0 := keep_cell hR c0
            have c1 := keep_cell hR c1
            have c2 := keep_cell hR c2
            have c3 := keep_cell hR c3
            have u0 := keep_cell hR u0
            have u1 := keep_cell hR u1
            have u2 := keep_cell hR u2
            have u3 := keep_cell hR u3
            simp [go_sem, h116, c0, c1, c2, c3, u0, u1, u2, u3, hge, hgeP]
            exact hK.out _ _ (Below.refl _ _) rfl
          · intro A wx hR hout hdep K hK
            have h3 : A.tmps[3]?.getD undef = .int .u64 (other : Int) := hout 3 (by kernel_rfl)
            have h111 : A.tmps[111]?.getD undef = .bool false := hdep 111 (by kernel_rfl)
            refine if_yes ((wanted_is (j := 12) (b := false) (by kernel_rfl) (by kernel_rfl) h111).trans rfl) ?_
            simp [go_sem, h3, hge, hgeP]
            exact hK.out _ _ (Below.refl _ _) rfl
          · intro A wx hR hout hdep K hK
            have h117 : A.tmps[117]?.getD undef = .agg #[.slice am nm pm, .slice ac nc pc] := hdep 117 (by kernel_rfl)
            have h118 : A.tmps[118]?.getD undef = .int .u64 (other : Int) := hdep 118 (by kernel_rfl)
            have h111 : A.tmps[111]?.getD undef = .bool false := hdep 111 (by kernel_rfl)
            refine if_yes ((wanted_is (j := 12) (b := false) (by kernel_rfl) (by kernel_rfl) h111).trans rfl) ?_
            simp [go_sem, h117, h118, hge, hgeP]
            refine (KP.out _ hR).mono ?_
            rintro e wG ⟨rfl, hbG⟩
            exact hK.out _ _ hbG rfl
          · intro A wx hR hout hdep K hK
            have h115 : A.tmps[115]?.getD undef = .int .u8 (pk : Int) := hdep 115 (by kernel_rfl)
            have h119 : A.tmps[119]?.getD undef = .int .u8 (pk : Int) := hdep 119 (by kernel_rfl)
            have h111 : A.tmps[111]?.getD undef = .bool false := hdep 111 (by kernel_rfl)
            refine if_yes ((wanted_is (j := 12) (b := false) (by kernel_rfl) (by kernel_rfl) h111).trans rfl) ?_
            simp [go_sem, h115, h119, hge, hgeP]
            exact hK.out _ _ (Below.refl _ _) rfl
          · intro A wx hR hout hdep K hK
            have h111 : A.tmps[111]?.getD undef = .bool false := hdep 111 (by kernel_rfl)
            have h120 : A.tmps[120]?.getD undef = .bool true := hdep 120 (by kernel_rfl)
            refine if_yes (by kernel_rfl) ?_
            simp [go_sem, h111, h120, hge, hgeP]
            exact hK.out _ _ (Below.refl _ _) rfl
          · intro A wx hR hout hdep K hK
            have h121 : A.tmps[121]?.getD undef = .bool true := hdep 121 (by kernel_rfl)
            refine if_yes (by kernel_rfl) ?_
            simp [go_sem, h121, hge, hgeP]
            exact hK.out _ _ (Below.refl _ _) rfl
          · intro A wx hR hout hdep K hK
            have h9 : A.tmps[9]?.getD undef = .pointer (some ⟨nB, 0, none⟩) := hout 9 (by kernel_rfl)
            have h122 : A.tmps[122]?.getD undef = .bool true := hdep 122 (by kernel_rfl)
            refine if_yes ((wanted_is (j := 23) (b := true) (by kernel_rfl) (by kernel_rfl) h122).trans rfl) ?_
            have c0 := keep_cell hR c0
            have c1 := keep_cell hR c1
            have c2 := keep_cell hR c2
            have c3 := keep_cell hR c3
            have u0 := keep_cell hR u0
            have u1 := keep_cell hR u1
            have u2 := keep_cell hR u2
            have u3 := keep_cell hR u3
            simp [go_sem, h9, c0, c1, c2, c3, u0, u1, u2, u3, hge, hgeP]
            exact hK.out _ _ (Below.refl _ _) rfl
          · intro A wx hR hout hdep K hK
            have h123 : A.tmps[123]?.getD undef = .agg #[.slice am' nm' pm', .slice ac' nc' pc', .int .u64 (bs : Int), .slice ap' np pp'] := hdep 123 (by kernel_rfl)
            have h122 : A.tmps[122]?.getD undef = .bool true := hdep 122 (by kernel_rfl)
            refine if_yes ((wanted_is (j := 23) (b := true) (by kernel_rfl) (by kernel_rfl) h122).trans rfl) ?_
            simp [go_sem, h123, hge, hgeP]
            refine (KF.out _ hR).mono ?_
            rintro e wG ⟨rfl, hbG⟩
            exact hK.out _ _ hbG rfl
          · intro A wx hR hout hdep K hK
            have h122 : A.tmps[122]?.getD undef = .bool true := hdep 122 (by kernel_rfl)
            have h124 : A.tmps[124]?.getD undef = .bool true := hdep 124 (by kernel_rfl)
            refine if_yes (by kernel_rfl) ?_
            simp [go_sem, h122, h124, hge, hgeP]
            exact hK.out _ _ (Below.refl _ _) rfl
          · intro A wx hR hout hdep K hK
            have h125 : A.tmps[125]?.getD undef = .bool true := hdep 125 (by kernel_rfl)
            refine if_yes (by kernel_rfl) ?_
            simp [go_sem, h125, hge, hgeP]
            exact hK.out _ _ (Below.refl _ _) rfl
          · intro A wx hR hout hdep K hK
            have h126 : A.tmps[126]?.getD undef = .bool true := hdep 126 (by kernel_rfl)
            refine if_yes ((wanted_is (j := 27) (b := true) (by kernel_rfl) (by kernel_rfl) h126).trans rfl) ?_
            simp [go_sem, hge, hgeP]
            refine (awake9 _).mono ?_
            rintro e wG ⟨rfl, hbG⟩
            exact hK.out _ _ hbG rfl
          · intro A wx hR hout hdep K hK
            have h126 : A.tmps[126]?.getD undef = .bool true := hdep 126 (by kernel_rfl)
            have h127 : A.tmps[127]?.getD undef = .bool true := hdep 127 (by kernel_rfl)
            refine if_yes (by kernel_rfl) ?_
            simp [go_sem, h126, h127, hge, hgeP]
            exact hK.out _ _ (Below.refl _ _) rfl
          · intro A wx hR hout hdep K hK
            have h128 : A.tmps[128]?.getD undef = .bool true := hdep 128 (by kernel_rfl)
            refine if_yes (by kernel_rfl) ?_
            simp [go_sem, h128, hge, hgeP]
            exact hK.out _ _ (Below.refl _ _) rfl
          simp only [putSl, Act.put, List.setIfInBounds_toArray, List.set_cons_zero, List.set_cons_succ]
          have hz : f 8 = .bool true := hf 8 (by kernel_rfl)
          rw [hz]
          go_wp2
          go_ret
          exact ⟨rfl, below_tr HB.out (below_tr tz hR)⟩
end Go.Proofs.Ytdhjmghfiodifaa
