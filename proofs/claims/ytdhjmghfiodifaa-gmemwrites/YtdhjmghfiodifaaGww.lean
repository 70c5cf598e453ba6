/- What is proved here: GmemWrites: its walk. -/
import Derived.Test.YtdhjmghfiodifaaGru
import Derived.Test.YtdhjmghfiodifaaGpt
import Derived.Test.YtdhjmghfiodifaaGby
import Derived.Test.YtdhjmghfiodifaaGagp
import Derived.Laws.StructEq
namespace Go.Proofs.Ytdhjmghfiodifaa
open Go.RowKit
set_option linter.unusedVariables false
set_option linter.unusedSimpArgs false
set_option maxRecDepth 100000
set_option maxHeartbeats 8000000 in
theorem writes_walk (vm vc vp : Value) (ms cs ps : List (Nat × Int)) (bs a : Nat) (s : ByteArray) (n : Int) (v : Nat) (w : World) (hsl : SlG w vm vc vp ms cs ps) (hrc : ∀ y ∈ cs, y.1 < 18446744073709551616) (hw : Words cs) (hbs : bs < 18446744073709551616) (ha : a < 4294967296) (hss : s.size < 9223372036854775808) (hv : v < 18446744073709551616) :
    Calls Try.prog 4 #[.agg #[vm, vc, .int .u64 (bs : Int), vp], .int .u32 (a : Int), .string s, .int .i64 n, .int .u64 (v : Int)] w fun e w' => e = .returned (.bool true) ∧ Below w.heap.size w w' := by
  obtain ⟨am, pm, rfl, _⟩ := id hsl.1
  obtain ⟨ac, pc, rfl, _⟩ := id hsl.2.1
  obtain ⟨ap, pp, rfl, _⟩ := id hsl.2.2
  obtain ⟨nm, hnm⟩ : ∃ z, z = ms.length := ⟨_, rfl⟩
  obtain ⟨nc, hnc⟩ : ∃ z, z = cs.length := ⟨_, rfl⟩
  obtain ⟨np, hnp⟩ : ∃ z, z = ps.length := ⟨_, rfl⟩
  rw [← hnm, ← hnc, ← hnp] at hsl ⊢
  clear hnm hnc hnp
  obtain ⟨W, hW⟩ : ∃ z, w.alloc (.cells #[.slice am nm pm, .slice ac nc pc, .int .u64 (bs : Int), .slice ap np pp] 29) = z := ⟨_, rfl⟩
  have D0 : B4 W w.heap.size 29 (.slice am nm pm) (.slice ac nc pc) (.int .u64 (bs : Int)) (.slice ap np pp) := by rw [← hW]; exact B4.new w 29 _ _ _ _
  have hb : Below w.heap.size w W := by rw [← hW]; exact (Below.refl _ _).alloc (Nat.le_refl _) _
  have K8 := gfew8 _ _ _ ms cs ps bs W (hsl.keep hb) hrc hbs
  obtain ⟨c0, c1, c2, c3⟩ := D0.cells
  have HB : Hid (Below w.heap.size w W) := hb
  cases hfw : fewB ms cs ps bs with
  | false =>
    rw [hfw] at K8
    clear hsl hb hfw
    go_enter Try.func4, Try.ntmps4
    go_wp2_with fail
    refine K8.mono ?_
    rintro e w1 ⟨rfl, hb1⟩
    go_wp2_with fail
    refine (awake9 w1).mono ?_
    rintro e wz ⟨rfl, hbz⟩
    go_wp2
    go_ret
    exact ⟨rfl, below_tr HB.out (below_tr hb1 hbz)⟩
  | true =>
  rw [hfw] at K8
  by_cases hlen : 300 < s.size
  · have hl4 : (300 : Int) < (s.size : Int) := by omega
    clear hsl hb hfw
    go_enter Try.func4, Try.ntmps4
    go_wp2_with fail
    refine K8.mono ?_
    rintro e w1 ⟨rfl, hb1⟩
    go_wp2_with fail
    refine (awake9 w1).mono ?_
    rintro e wz ⟨rfl, hbz⟩
    go_wp2
    go_ret
    exact ⟨rfl, below_tr HB.out (below_tr hb1 hbz)⟩
  have hl3 : s.size ≤ 300 := by omega
  have hl4 : (s.size : Int) ≤ 300 := by omega
  have hfq : FitG ms cs ps bs := by
    unfold fewB at hfw
    rw [Bool.and_eq_true] at hfw
    exact of_fitGB hfw.2
  have hnc1 : cs.length ≤ 100 := by
    unfold fewB at hfw
    rw [Bool.and_eq_true] at hfw
    have := hfw.1
    simp at this
    omega
  have HG : Hid (∀ w', Below W.heap.size W w' → GdM w' (.slice am nm pm) (.slice ac nc pc) (.slice ap np pp) ms cs ps bs) := fun w' hb' => by
    have h := hsl.keep (below_tr hb hb')
    have l1 := hfq.fq.1
    have l2 := hfq.fq.2.1
    have l3 := hfq.lp
    exact ⟨h.1, h.2.1, h.2.2, hfq.fq.2.2.1, hfq.fq.2.2.2.1, hfq.sp, by omega, by omega, by omega, hw, hfq.le⟩
  have HSL : Hid (∀ w', Below W.heap.size W w' → SlG w' (.slice am nm pm) (.slice ac nc pc) (.slice ap np pp) ms cs ps) := fun w' hb' => hsl.keep (below_tr hb hb')
  obtain ⟨C1, hC1⟩ : ∃ z, z = chL cs ps bs a s 2 := ⟨_, rfl⟩
  obtain ⟨j1, hj1⟩ : ∃ z, z = (ffN ps a s.size 2).1 := ⟨_, rfl⟩
  obtain ⟨y1, hy1⟩ : ∃ z, z = (ffN ps a s.size 2).2 := ⟨_, rfl⟩
  obtain ⟨C2, hC2⟩ : ∃ z, z = chL cs ps bs a s 0 := ⟨_, rfl⟩
  obtain ⟨j2, hj2⟩ : ∃ z, z = (ffN ps a s.size 0).1 := ⟨_, rfl⟩
  obtain ⟨y2, hy2⟩ : ∃ z, z = (ffN ps a s.size 0).2 := ⟨_, rfl⟩
  obtain ⟨C3, hC3⟩ : ∃ z, z = stC cs ps bs a n v := ⟨_, rfl⟩
  obtain ⟨j3, hj3⟩ : ∃ z, z = (stF ps a n v).1 := ⟨_, rfl⟩
  obtain ⟨y3, hy3⟩ : ∃ z, z = (stF ps a n v).2 := ⟨_, rfl⟩
  have HFT0 : Hid (FitG ms C1 ps bs ∧ ∀ y ∈ C1, y.1 < 18446744073709551616) := by
    have h := put_fit (s := s) (asked := 2) hfq hw hrc (by omega) ha
    rw [← hC1] at h
    exact ⟨h.1, h.2.2.1⟩
  have HFT1 : Hid (FitG ms C2 ps bs ∧ ∀ y ∈ C2, y.1 < 18446744073709551616) := by
    have h := put_fit (s := s) (asked := 0) hfq hw hrc (by omega) ha
    rw [← hC2] at h
    exact ⟨h.1, h.2.2.1⟩
  have HFT2 : Hid (FitG ms C3 ps bs ∧ ∀ y ∈ C3, y.1 < 18446744073709551616) := by
    cases hi : isW n with
    | false =>
      have e : C3 = cs := by rw [hC3, stC, if_neg (by rw [hi]; decide)]
      rw [e]
      exact ⟨hfq, hrc⟩
    | true =>
      have hn8 : 1 ≤ n ∧ n ≤ 8 := by
        have h : n = 1 ∨ n = 2 ∨ n = 4 ∨ n = 8 := by simpa [isW, or_assoc] using hi
        omega
      have hsz : (Go.Proofs.Ytdhjmghfiodifaa.W.putBeS v n).size ≤ 300 := by
        rw [Go.Proofs.Ytdhjmghfiodifaa.W.putBeS, if_pos (by omega)]
        show ((Go.Proofs.Ytdhjmghfiodifaa.W.leB v n.toNat).reverse.toArray).size ≤ 300
        rw [List.size_toArray, List.length_reverse, Go.Proofs.Ytdhjmghfiodifaa.W.leB_length]
        omega
      have h := put_fit (s := Go.Proofs.Ytdhjmghfiodifaa.W.putBeS v n) (asked := 2) hfq hw hrc (by omega) ha
      have e : C3 = chL cs ps bs a (Go.Proofs.Ytdhjmghfiodifaa.W.putBeS v n) 2 := by rw [hC3, stC, if_pos hi]
      rw [← e] at h
      exact ⟨h.1, h.2.2.1⟩
  have KA : Hid (∀ w', Below W.heap.size W w' → Calls Try.prog 18 #[.agg #[.slice am nm pm, .slice ac nc pc, .int .u64 (bs : Int), .slice ap np pp], .int .u32 (a : Int), .string s] w' fun e w'' => ∃ am' nm' pm' ac' nc' pc' ap' np' pp', e = .returned (.tuple #[.agg #[.slice am' nm' pm', .slice ac' nc' pc', .int .u64 (bs : Int), .slice ap' np' pp'], .agg #[.int .i64 j1, .int .u64 (y1 : Int)]]) ∧ SlG w'' (.slice am' nm' pm') (.slice ac' nc' pc') (.slice ap' np' pp') ms C1 ps ∧ Below w'.heap.size w' w'') := fun w' hb' => by
    rw [hj1, hy1, hC1]
    refine (gput18 _ _ _ bs a s ms cs ps w' (HG.out w' hb') ha hss (by have := hfq.al; omega) (fun y hy => (hfq.fq.2.2.2.2.2 y hy).1) (by omega) (fun h => fit_host hfq ha (Or.inr rfl) h)).mono ?_
    rintro e w'' ⟨um, uc, up, rfl, ho, hb''⟩
    have hs2 := ho.sl
    obtain ⟨am', pm', rfl, _⟩ := id hs2.1
    obtain ⟨ac', pc', rfl, _⟩ := id hs2.2.1
    obtain ⟨ap', pp', rfl, _⟩ := id hs2.2.2
    exact ⟨_, _, _, _, _, _, _, _, _, rfl, hs2, hb''⟩
  have KB : Hid (∀ w', Below W.heap.size W w' → Calls Try.prog 19 #[.agg #[.slice am nm pm, .slice ac nc pc, .int .u64 (bs : Int), .slice ap np pp], .int .u32 (a : Int), .string s] w' fun e w'' => ∃ am' nm' pm' ac' nc' pc' ap' np' pp', e = .returned (.tuple #[.agg #[.slice am' nm' pm', .slice ac' nc' pc', .int .u64 (bs : Int), .slice ap' np' pp'], .agg #[.int .i64 j1, .int .u64 (y1 : Int)]]) ∧ SlG w'' (.slice am' nm' pm') (.slice ac' nc' pc') (.slice ap' np' pp') ms C1 ps ∧ Below w'.heap.size w' w'') := fun w' hb' => by
    rw [hj1, hy1, hC1]
    refine (rput19 _ _ _ bs a s ms cs ps w' (HSL.out w' hb') hfq hw hrc ha hl3 hnc1).mono ?_
    rintro e w'' ⟨um, uc, up, rfl, ho, hb''⟩
    have hs2 := ho
    obtain ⟨am', pm', rfl, _⟩ := id hs2.1
    obtain ⟨ac', pc', rfl, _⟩ := id hs2.2.1
    obtain ⟨ap', pp', rfl, _⟩ := id hs2.2.2
    exact ⟨_, _, _, _, _, _, _, _, _, rfl, hs2, hb''⟩
  have KC : Hid (∀ w', Below W.heap.size W w' → Calls Try.prog 20 #[.agg #[.slice am nm pm, .slice ac nc pc, .int .u64 (bs : Int), .slice ap np pp], .int .u32 (a : Int), .string s] w' fun e w'' => ∃ am' nm' pm' ac' nc' pc' ap' np' pp', e = .returned (.tuple #[.agg #[.slice am' nm' pm', .slice ac' nc' pc', .int .u64 (bs : Int), .slice ap' np' pp'], .agg #[.int .i64 j2, .int .u64 (y2 : Int)]]) ∧ SlG w'' (.slice am' nm' pm') (.slice ac' nc' pc') (.slice ap' np' pp') ms C2 ps ∧ Below w'.heap.size w' w'') := fun w' hb' => by
    rw [hj2, hy2, hC2]
    refine (gpoke20 _ _ _ bs a s ms cs ps w' (HG.out w' hb') ha hss (by have := hfq.al; omega) (fun y hy => (hfq.fq.2.2.2.2.2 y hy).1) (by omega) (fun h => fit_host hfq ha (Or.inr rfl) h)).mono ?_
    rintro e w'' ⟨um, uc, up, rfl, ho, hb''⟩
    have hs2 := ho.sl
    obtain ⟨am', pm', rfl, _⟩ := id hs2.1
    obtain ⟨ac', pc', rfl, _⟩ := id hs2.2.1
    obtain ⟨ap', pp', rfl, _⟩ := id hs2.2.2
    exact ⟨_, _, _, _, _, _, _, _, _, rfl, hs2, hb''⟩
  have KD : Hid (∀ w', Below W.heap.size W w' → Calls Try.prog 21 #[.agg #[.slice am nm pm, .slice ac nc pc, .int .u64 (bs : Int), .slice ap np pp], .int .u32 (a : Int), .string s] w' fun e w'' => ∃ am' nm' pm' ac' nc' pc' ap' np' pp', e = .returned (.tuple #[.agg #[.slice am' nm' pm', .slice ac' nc' pc', .int .u64 (bs : Int), .slice ap' np' pp'], .agg #[.int .i64 j2, .int .u64 (y2 : Int)]]) ∧ SlG w'' (.slice am' nm' pm') (.slice ac' nc' pc') (.slice ap' np' pp') ms C2 ps ∧ Below w'.heap.size w' w'') := fun w' hb' => by
    rw [hj2, hy2, hC2]
    refine (rpoke21 _ _ _ bs a s ms cs ps w' (HSL.out w' hb') hfq hw hrc ha hl3 hnc1).mono ?_
    rintro e w'' ⟨um, uc, up, rfl, ho, hb''⟩
    have hs2 := ho
    obtain ⟨am', pm', rfl, _⟩ := id hs2.1
    obtain ⟨ac', pc', rfl, _⟩ := id hs2.2.1
    obtain ⟨ap', pp', rfl, _⟩ := id hs2.2.2
    exact ⟨_, _, _, _, _, _, _, _, _, rfl, hs2, hb''⟩
  have KE : Hid (∀ w', Below W.heap.size W w' → Calls Try.prog 22 #[.agg #[.slice am nm pm, .slice ac nc pc, .int .u64 (bs : Int), .slice ap np pp], .int .u32 (a : Int), .int .i64 n, .int .u64 (v : Int)] w' fun e w'' => ∃ am' nm' pm' ac' nc' pc' ap' np' pp', e = .returned (.tuple #[.agg #[.slice am' nm' pm', .slice ac' nc' pc', .int .u64 (bs : Int), .slice ap' np' pp'], .agg #[.int .i64 j3, .int .u64 (y3 : Int)]]) ∧ SlG w'' (.slice am' nm' pm') (.slice ac' nc' pc') (.slice ap' np' pp') ms C3 ps ∧ Below w'.heap.size w' w'') := fun w' hb' => by
    rw [hj3, hy3, hC3]
    refine (gstore22 _ _ _ bs a v n ms cs ps w' (HG.out w' hb') ha (by have := hfq.al; omega) (fun y hy => (hfq.fq.2.2.2.2.2 y hy).1) (by omega) (fun _ h => fit_host hfq ha (Or.inr rfl) h)).mono ?_
    rintro e w'' ⟨um, uc, up, rfl, ho, hb''⟩
    have hs2 := ho.sl
    obtain ⟨am', pm', rfl, _⟩ := id hs2.1
    obtain ⟨ac', pc', rfl, _⟩ := id hs2.2.1
    obtain ⟨ap', pp', rfl, _⟩ := id hs2.2.2
    exact ⟨_, _, _, _, _, _, _, _, _, rfl, hs2, hb''⟩
  have KF : Hid (∀ w', Below W.heap.size W w' → Calls Try.prog 23 #[.agg #[.slice am nm pm, .slice ac nc pc, .int .u64 (bs : Int), .slice ap np pp], .int .u32 (a : Int), .int .i64 n, .int .u64 (v : Int)] w' fun e w'' => ∃ am' nm' pm' ac' nc' pc' ap' np' pp', e = .returned (.tuple #[.agg #[.slice am' nm' pm', .slice ac' nc' pc', .int .u64 (bs : Int), .slice ap' np' pp'], .agg #[.int .i64 j3, .int .u64 (y3 : Int)]]) ∧ SlG w'' (.slice am' nm' pm') (.slice ac' nc' pc') (.slice ap' np' pp') ms C3 ps ∧ Below w'.heap.size w' w'') := fun w' hb' => by
    rw [hj3, hy3, hC3]
    refine (rstoreN23 _ _ _ bs a v n ms cs ps w' (HSL.out w' hb') hfq hw hrc ha hv hnc1).mono ?_
    rintro e w'' ⟨um, uc, up, rfl, ho, hb''⟩
    have hs2 := ho
    obtain ⟨am', pm', rfl, _⟩ := id hs2.1
    obtain ⟨ac', pc', rfl, _⟩ := id hs2.2.1
    obtain ⟨ap', pp', rfl, _⟩ := id hs2.2.2
    exact ⟨_, _, _, _, _, _, _, _, _, rfl, hs2, hb''⟩
  clear hC1 hj1 hy1 hC2 hj2 hy2 hC3 hj3 hy3 HG HSL hfq hfw hsl hb hrc hw hnc1 hlen hl3
  go_enter Try.func4, Try.ntmps4
  go_wp2_with fail
  refine K8.mono ?_
  rintro e w1 ⟨rfl, hb1⟩
  clear K8
  have D0 := D0.keep hb1
  obtain ⟨c0, c1, c2, c3⟩ := D0.cells
  have t1 := hb1
  clear hb1
  have R2 := KA.out w1 t1
  go_wp2_with fail
  refine R2.mono ?_
  rintro e v2 ⟨am2, nm2, pm2, ac2, nc2, pc2, ap2, np2, pp2, rfl, hs2, hb2⟩
  clear R2 KA
  obtain ⟨Wa2, Wb2, Wc2, W2, nF2, hWa2, hWb2, hnF2, hWc2, hW2, ⟨qa2, qb2, qc2, qd2, qe2, qf2, qg2, qh2⟩, ⟨qi2, qj2, qk2, ql2⟩, D2, G2, bb2⟩ := newGF v2 (.slice am2 nm2 pm2) (.slice ac2 nc2 pc2) (.int .u64 (bs : Int)) (.slice ap2 np2 pp2) (.int .i64 j1) (.int .u64 (y1 : Int))
  have D0 := (D0.keep hb2).keep bb2
  obtain ⟨c0, c1, c2, c3⟩ := D0.cells
  have t2 := below_tr t1 (below_tr hb2 bb2)
  obtain ⟨nB2, hnB2⟩ : ∃ z, v2.heap.size = z := ⟨_, rfl⟩
  rw [hnB2] at D2 hWc2 qa2 qb2 qc2 qd2 qe2 qf2 qg2 qh2
  have hs2 := hs2.keep bb2
  have HS2 : Hid (SlG W2 (.slice am2 nm2 pm2) (.slice ac2 nc2 pc2) (.slice ap2 np2 pp2) ms C1 ps) := hs2
  clear hs2
  clear hb2 bb2 t1
  have R3 := KB.out W2 t2
  go_wp2_with fail
  refine R3.mono ?_
  rintro e v3 ⟨am3, nm3, pm3, ac3, nc3, pc3, ap3, np3, pp3, rfl, hs3, hb3⟩
  clear R3 KB
  obtain ⟨Wa3, Wb3, Wc3, W3, nF3, hWa3, hWb3, hnF3, hWc3, hW3, ⟨qa3, qb3, qc3, qd3, qe3, qf3, qg3, qh3⟩, ⟨qi3, qj3, qk3, ql3⟩, D3, G3, bb3⟩ := newGF v3 (.slice am3 nm3 pm3) (.slice ac3 nc3 pc3) (.int .u64 (bs : Int)) (.slice ap3 np3 pp3) (.int .i64 j1) (.int .u64 (y1 : Int))
  have D0 := (D0.keep hb3).keep bb3
  obtain ⟨c0, c1, c2, c3⟩ := D0.cells
  have t3 := below_tr t2 (below_tr hb3 bb3)
  obtain ⟨nB3, hnB3⟩ : ∃ z, v3.heap.size = z := ⟨_, rfl⟩
  rw [hnB3] at D3 hWc3 qa3 qb3 qc3 qd3 qe3 qf3 qg3 qh3
  have hs3 := hs3.keep bb3
  have HS3 : Hid (SlG W3 (.slice am3 nm3 pm3) (.slice ac3 nc3 pc3) (.slice ap3 np3 pp3) ms C1 ps) := hs3
  clear hs3
  have G2 := (G2.keep hb3).keep bb3
  have D2 := (D2.keep hb3).keep bb3
  have HS2 : Hid (SlG W3 (.slice am2 nm2 pm2) (.slice ac2 nc2 pc2) (.slice ap2 np2 pp2) ms C1 ps) := (HS2.out.keep hb3).keep bb3
  clear hb3 bb3 t2
  have R4 := KC.out W3 t3
  go_wp2_with fail
  refine R4.mono ?_
  rintro e v4 ⟨am4, nm4, pm4, ac4, nc4, pc4, ap4, np4, pp4, rfl, hs4, hb4⟩
  clear R4 KC
  obtain ⟨Wa4, Wb4, Wc4, W4, nF4, hWa4, hWb4, hnF4, hWc4, hW4, ⟨qa4, qb4, qc4, qd4, qe4, qf4, qg4, qh4⟩, ⟨qi4, qj4, qk4, ql4⟩, D4, G4, bb4⟩ := newGF v4 (.slice am4 nm4 pm4) (.slice ac4 nc4 pc4) (.int .u64 (bs : Int)) (.slice ap4 np4 pp4) (.int .i64 j2) (.int .u64 (y2 : Int))
  have D0 := (D0.keep hb4).keep bb4
  obtain ⟨c0, c1, c2, c3⟩ := D0.cells
  have t4 := below_tr t3 (below_tr hb4 bb4)
  obtain ⟨nB4, hnB4⟩ : ∃ z, v4.heap.size = z := ⟨_, rfl⟩
  rw [hnB4] at D4 hWc4 qa4 qb4 qc4 qd4 qe4 qf4 qg4 qh4
  have hs4 := hs4.keep bb4
  have HS4 : Hid (SlG W4 (.slice am4 nm4 pm4) (.slice ac4 nc4 pc4) (.slice ap4 np4 pp4) ms C2 ps) := hs4
  clear hs4
  have G2 := (G2.keep hb4).keep bb4
  have D2 := (D2.keep hb4).keep bb4
  have HS2 : Hid (SlG W4 (.slice am2 nm2 pm2) (.slice ac2 nc2 pc2) (.slice ap2 np2 pp2) ms C1 ps) := (HS2.out.keep hb4).keep bb4
  have G3 := (G3.keep hb4).keep bb4
  have D3 := (D3.keep hb4).keep bb4
  have HS3 : Hid (SlG W4 (.slice am3 nm3 pm3) (.slice ac3 nc3 pc3) (.slice ap3 np3 pp3) ms C1 ps) := (HS3.out.keep hb4).keep bb4
  clear hb4 bb4 t3
  have R5 := KD.out W4 t4
  go_wp2_with fail
  refine R5.mono ?_
  rintro e v5 ⟨am5, nm5, pm5, ac5, nc5, pc5, ap5, np5, pp5, rfl, hs5, hb5⟩
  clear R5 KD
  obtain ⟨Wa5, Wb5, Wc5, W5, nF5, hWa5, hWb5, hnF5, hWc5, hW5, ⟨qa5, qb5, qc5, qd5, qe5, qf5, qg5, qh5⟩, ⟨qi5, qj5, qk5, ql5⟩, D5, G5, bb5⟩ := newGF v5 (.slice am5 nm5 pm5) (.slice ac5 nc5 pc5) (.int .u64 (bs : Int)) (.slice ap5 np5 pp5) (.int .i64 j2) (.int .u64 (y2 : Int))
  have D0 := (D0.keep hb5).keep bb5
  obtain ⟨c0, c1, c2, c3⟩ := D0.cells
  have t5 := below_tr t4 (below_tr hb5 bb5)
  obtain ⟨nB5, hnB5⟩ : ∃ z, v5.heap.size = z := ⟨_, rfl⟩
  rw [hnB5] at D5 hWc5 qa5 qb5 qc5 qd5 qe5 qf5 qg5 qh5
  have hs5 := hs5.keep bb5
  have HS5 : Hid (SlG W5 (.slice am5 nm5 pm5) (.slice ac5 nc5 pc5) (.slice ap5 np5 pp5) ms C2 ps) := hs5
  clear hs5
  have G2 := (G2.keep hb5).keep bb5
  have D2 := (D2.keep hb5).keep bb5
  have HS2 : Hid (SlG W5 (.slice am2 nm2 pm2) (.slice ac2 nc2 pc2) (.slice ap2 np2 pp2) ms C1 ps) := (HS2.out.keep hb5).keep bb5
  have G3 := (G3.keep hb5).keep bb5
  have D3 := (D3.keep hb5).keep bb5
  have HS3 : Hid (SlG W5 (.slice am3 nm3 pm3) (.slice ac3 nc3 pc3) (.slice ap3 np3 pp3) ms C1 ps) := (HS3.out.keep hb5).keep bb5
  have G4 := (G4.keep hb5).keep bb5
  have D4 := (D4.keep hb5).keep bb5
  have HS4 : Hid (SlG W5 (.slice am4 nm4 pm4) (.slice ac4 nc4 pc4) (.slice ap4 np4 pp4) ms C2 ps) := (HS4.out.keep hb5).keep bb5
  clear hb5 bb5 t4
  have R6 := KE.out W5 t5
  go_wp2_with fail
  refine R6.mono ?_
  rintro e v6 ⟨am6, nm6, pm6, ac6, nc6, pc6, ap6, np6, pp6, rfl, hs6, hb6⟩
  clear R6 KE
  obtain ⟨Wa6, Wb6, Wc6, W6, nF6, hWa6, hWb6, hnF6, hWc6, hW6, ⟨qa6, qb6, qc6, qd6, qe6, qf6, qg6, qh6⟩, ⟨qi6, qj6, qk6, ql6⟩, D6, G6, bb6⟩ := newGF v6 (.slice am6 nm6 pm6) (.slice ac6 nc6 pc6) (.int .u64 (bs : Int)) (.slice ap6 np6 pp6) (.int .i64 j3) (.int .u64 (y3 : Int))
  have D0 := (D0.keep hb6).keep bb6
  obtain ⟨c0, c1, c2, c3⟩ := D0.cells
  have t6 := below_tr t5 (below_tr hb6 bb6)
  obtain ⟨nB6, hnB6⟩ : ∃ z, v6.heap.size = z := ⟨_, rfl⟩
  rw [hnB6] at D6 hWc6 qa6 qb6 qc6 qd6 qe6 qf6 qg6 qh6
  have hs6 := hs6.keep bb6
  have HS6 : Hid (SlG W6 (.slice am6 nm6 pm6) (.slice ac6 nc6 pc6) (.slice ap6 np6 pp6) ms C3 ps) := hs6
  clear hs6
  have G2 := (G2.keep hb6).keep bb6
  have D2 := (D2.keep hb6).keep bb6
  have HS2 : Hid (SlG W6 (.slice am2 nm2 pm2) (.slice ac2 nc2 pc2) (.slice ap2 np2 pp2) ms C1 ps) := (HS2.out.keep hb6).keep bb6
  have G3 := (G3.keep hb6).keep bb6
  have D3 := (D3.keep hb6).keep bb6
  have HS3 : Hid (SlG W6 (.slice am3 nm3 pm3) (.slice ac3 nc3 pc3) (.slice ap3 np3 pp3) ms C1 ps) := (HS3.out.keep hb6).keep bb6
  have G4 := (G4.keep hb6).keep bb6
  have D4 := (D4.keep hb6).keep bb6
  have HS4 : Hid (SlG W6 (.slice am4 nm4 pm4) (.slice ac4 nc4 pc4) (.slice ap4 np4 pp4) ms C2 ps) := (HS4.out.keep hb6).keep bb6
  have G5 := (G5.keep hb6).keep bb6
  have D5 := (D5.keep hb6).keep bb6
  have HS5 : Hid (SlG W6 (.slice am5 nm5 pm5) (.slice ac5 nc5 pc5) (.slice ap5 np5 pp5) ms C2 ps) := (HS5.out.keep hb6).keep bb6
  clear hb6 bb6 t5
  have R7 := KF.out W6 t6
  go_wp2_with fail
  refine R7.mono ?_
  rintro e v7 ⟨am7, nm7, pm7, ac7, nc7, pc7, ap7, np7, pp7, rfl, hs7, hb7⟩
  clear R7 KF
  obtain ⟨Wa7, Wb7, Wc7, W7, nF7, hWa7, hWb7, hnF7, hWc7, hW7, ⟨qa7, qb7, qc7, qd7, qe7, qf7, qg7, qh7⟩, ⟨qi7, qj7, qk7, ql7⟩, D7, G7, bb7⟩ := newGF v7 (.slice am7 nm7 pm7) (.slice ac7 nc7 pc7) (.int .u64 (bs : Int)) (.slice ap7 np7 pp7) (.int .i64 j3) (.int .u64 (y3 : Int))
  have D0 := (D0.keep hb7).keep bb7
  obtain ⟨c0, c1, c2, c3⟩ := D0.cells
  have t7 := below_tr t6 (below_tr hb7 bb7)
  obtain ⟨nB7, hnB7⟩ : ∃ z, v7.heap.size = z := ⟨_, rfl⟩
  rw [hnB7] at D7 hWc7 qa7 qb7 qc7 qd7 qe7 qf7 qg7 qh7
  have hs7 := hs7.keep bb7
  have HS7 : Hid (SlG W7 (.slice am7 nm7 pm7) (.slice ac7 nc7 pc7) (.slice ap7 np7 pp7) ms C3 ps) := hs7
  clear hs7
  have G2 := (G2.keep hb7).keep bb7
  have D2 := (D2.keep hb7).keep bb7
  have HS2 : Hid (SlG W7 (.slice am2 nm2 pm2) (.slice ac2 nc2 pc2) (.slice ap2 np2 pp2) ms C1 ps) := (HS2.out.keep hb7).keep bb7
  have G3 := (G3.keep hb7).keep bb7
  have D3 := (D3.keep hb7).keep bb7
  have HS3 : Hid (SlG W7 (.slice am3 nm3 pm3) (.slice ac3 nc3 pc3) (.slice ap3 np3 pp3) ms C1 ps) := (HS3.out.keep hb7).keep bb7
  have G4 := (G4.keep hb7).keep bb7
  have D4 := (D4.keep hb7).keep bb7
  have HS4 : Hid (SlG W7 (.slice am4 nm4 pm4) (.slice ac4 nc4 pc4) (.slice ap4 np4 pp4) ms C2 ps) := (HS4.out.keep hb7).keep bb7
  have G5 := (G5.keep hb7).keep bb7
  have D5 := (D5.keep hb7).keep bb7
  have HS5 : Hid (SlG W7 (.slice am5 nm5 pm5) (.slice ac5 nc5 pc5) (.slice ap5 np5 pp5) ms C2 ps) := (HS5.out.keep hb7).keep bb7
  have G6 := (G6.keep hb7).keep bb7
  have D6 := (D6.keep hb7).keep bb7
  have HS6 : Hid (SlG W7 (.slice am6 nm6 pm6) (.slice ac6 nc6 pc6) (.slice ap6 np6 pp6) ms C3 ps) := (HS6.out.keep hb7).keep bb7
  clear hb7 bb7 t6
  have p2 := G2.c0
  have r2 := G2.c1
  have p3 := G3.c0
  have r3 := G3.c1
  have p4 := G4.c0
  have r4 := G4.c1
  have p5 := G5.c0
  have r5 := G5.c1
  have p6 := G6.c0
  have r6 := G6.c1
  have p7 := G7.c0
  have r7 := G7.c1
  clear D0 c0 c1 c2 c3
  have S0 : Hid (∀ w', Below W7.heap.size W7 w' → Calls Try.prog 24 #[.agg #[.slice am2 nm2 pm2, .slice ac2 nc2 pc2, .int .u64 (bs : Int), .slice ap2 np2 pp2], .agg #[.slice am3 nm3 pm3, .slice ac3 nc3 pc3, .int .u64 (bs : Int), .slice ap3 np3 pp3]] w' fun e w'' => e = .returned (.bool true) ∧ Below w'.heap.size w' w'') := fun w' hb' => by
    have h := rsame13 _ _ _ _ _ _ ms C1 ps ms C1 ps bs bs w' (HS2.out.keep hb') (HS3.out.keep hb')
    rw [show sameG ms C1 ps bs ms C1 ps bs = true from decide_eq_true ⟨rfl, rfl, rfl, rfl⟩] at h
    exact h
  have Z0 : Hid (∀ w', Below W7.heap.size W7 w' → Calls Try.prog 25 #[.agg #[.slice am2 nm2 pm2, .slice ac2 nc2 pc2, .int .u64 (bs : Int), .slice ap2 np2 pp2]] w' fun e w'' => e = .returned (.bool true) ∧ Below w'.heap.size w' w'') := fun w' hb' => by
    have h := rfit11 _ _ _ ms C1 ps bs w' (HS2.out.keep hb') HFT0.out.2 hbs
    rw [fitGB_yes HFT0.out.1] at h
    exact h
  have S1 : Hid (∀ w', Below W7.heap.size W7 w' → Calls Try.prog 24 #[.agg #[.slice am4 nm4 pm4, .slice ac4 nc4 pc4, .int .u64 (bs : Int), .slice ap4 np4 pp4], .agg #[.slice am5 nm5 pm5, .slice ac5 nc5 pc5, .int .u64 (bs : Int), .slice ap5 np5 pp5]] w' fun e w'' => e = .returned (.bool true) ∧ Below w'.heap.size w' w'') := fun w' hb' => by
    have h := rsame13 _ _ _ _ _ _ ms C2 ps ms C2 ps bs bs w' (HS4.out.keep hb') (HS5.out.keep hb')
    rw [show sameG ms C2 ps bs ms C2 ps bs = true from decide_eq_true ⟨rfl, rfl, rfl, rfl⟩] at h
    exact h
  have Z1 : Hid (∀ w', Below W7.heap.size W7 w' → Calls Try.prog 25 #[.agg #[.slice am4 nm4 pm4, .slice ac4 nc4 pc4, .int .u64 (bs : Int), .slice ap4 np4 pp4]] w' fun e w'' => e = .returned (.bool true) ∧ Below w'.heap.size w' w'') := fun w' hb' => by
    have h := rfit11 _ _ _ ms C2 ps bs w' (HS4.out.keep hb') HFT1.out.2 hbs
    rw [fitGB_yes HFT1.out.1] at h
    exact h
  have S2 : Hid (∀ w', Below W7.heap.size W7 w' → Calls Try.prog 24 #[.agg #[.slice am6 nm6 pm6, .slice ac6 nc6 pc6, .int .u64 (bs : Int), .slice ap6 np6 pp6], .agg #[.slice am7 nm7 pm7, .slice ac7 nc7 pc7, .int .u64 (bs : Int), .slice ap7 np7 pp7]] w' fun e w'' => e = .returned (.bool true) ∧ Below w'.heap.size w' w'') := fun w' hb' => by
    have h := rsame13 _ _ _ _ _ _ ms C3 ps ms C3 ps bs bs w' (HS6.out.keep hb') (HS7.out.keep hb')
    rw [show sameG ms C3 ps bs ms C3 ps bs = true from decide_eq_true ⟨rfl, rfl, rfl, rfl⟩] at h
    exact h
  have Z2 : Hid (∀ w', Below W7.heap.size W7 w' → Calls Try.prog 25 #[.agg #[.slice am6 nm6 pm6, .slice ac6 nc6 pc6, .int .u64 (bs : Int), .slice ap6 np6 pp6]] w' fun e w'' => e = .returned (.bool true) ∧ Below w'.heap.size w' w'') := fun w' hb' => by
    have h := rfit11 _ _ _ ms C3 ps bs w' (HS6.out.keep hb') HFT2.out.2 hbs
    rw [fitGB_yes HFT2.out.1] at h
    exact h
  clear HS2 HS3 HS4 HS5 HS6 HS7
  obtain ⟨a2, b2, d2, e2⟩ := D2.cells
  obtain ⟨a3, b3, d3, e3⟩ := D3.cells
  obtain ⟨a4, b4, d4, e4⟩ := D4.cells
  obtain ⟨a5, b5, d5, e5⟩ := D5.cells
  obtain ⟨a6, b6, d6, e6⟩ := D6.cells
  obtain ⟨a7, b7, d7, e7⟩ := D7.cells
  go_wp2_with fail
  refine (S0.out _ (Below.refl _ _)).mono ?_
  rintro e x1 ⟨rfl, hx1⟩
  have u1 : Below W7.heap.size W7 x1 := hx1
  have a2 := keep_cell hx1 a2
  have b2 := keep_cell hx1 b2
  have d2 := keep_cell hx1 d2
  have e2 := keep_cell hx1 e2
  have p2 := keep_cell hx1 p2
  have r2 := keep_cell hx1 r2
  have a3 := keep_cell hx1 a3
  have b3 := keep_cell hx1 b3
  have d3 := keep_cell hx1 d3
  have e3 := keep_cell hx1 e3
  have p3 := keep_cell hx1 p3
  have r3 := keep_cell hx1 r3
  have a4 := keep_cell hx1 a4
  have b4 := keep_cell hx1 b4
  have d4 := keep_cell hx1 d4
  have e4 := keep_cell hx1 e4
  have p4 := keep_cell hx1 p4
  have r4 := keep_cell hx1 r4
  have a5 := keep_cell hx1 a5
  have b5 := keep_cell hx1 b5
  have d5 := keep_cell hx1 d5
  have e5 := keep_cell hx1 e5
  have p5 := keep_cell hx1 p5
  have r5 := keep_cell hx1 r5
  have a6 := keep_cell hx1 a6
  have b6 := keep_cell hx1 b6
  have d6 := keep_cell hx1 d6
  have e6 := keep_cell hx1 e6
  have p6 := keep_cell hx1 p6
  have r6 := keep_cell hx1 r6
  have a7 := keep_cell hx1 a7
  have b7 := keep_cell hx1 b7
  have d7 := keep_cell hx1 d7
  have e7 := keep_cell hx1 e7
  have p7 := keep_cell hx1 p7
  have r7 := keep_cell hx1 r7
  clear hx1
  go_wp2_with fail
  refine (S1.out _ u1).mono ?_
  rintro e x2 ⟨rfl, hx2⟩
  have u2 : Below W7.heap.size W7 x2 := below_tr u1 hx2
  have a2 := keep_cell hx2 a2
  have b2 := keep_cell hx2 b2
  have d2 := keep_cell hx2 d2
  have e2 := keep_cell hx2 e2
  have p2 := keep_cell hx2 p2
  have r2 := keep_cell hx2 r2
  have a3 := keep_cell hx2 a3
  have b3 := keep_cell hx2 b3
  have d3 := keep_cell hx2 d3
  have e3 := keep_cell hx2 e3
  have p3 := keep_cell hx2 p3
  have r3 := keep_cell hx2 r3
  have a4 := keep_cell hx2 a4
  have b4 := keep_cell hx2 b4
  have d4 := keep_cell hx2 d4
  have e4 := keep_cell hx2 e4
  have p4 := keep_cell hx2 p4
  have r4 := keep_cell hx2 r4
  have a5 := keep_cell hx2 a5
  have b5 := keep_cell hx2 b5
  have d5 := keep_cell hx2 d5
  have e5 := keep_cell hx2 e5
  have p5 := keep_cell hx2 p5
  have r5 := keep_cell hx2 r5
  have a6 := keep_cell hx2 a6
  have b6 := keep_cell hx2 b6
  have d6 := keep_cell hx2 d6
  have e6 := keep_cell hx2 e6
  have p6 := keep_cell hx2 p6
  have r6 := keep_cell hx2 r6
  have a7 := keep_cell hx2 a7
  have b7 := keep_cell hx2 b7
  have d7 := keep_cell hx2 d7
  have e7 := keep_cell hx2 e7
  have p7 := keep_cell hx2 p7
  have r7 := keep_cell hx2 r7
  clear hx2 u1
  go_wp2_with fail
  refine (S2.out _ u2).mono ?_
  rintro e x3 ⟨rfl, hx3⟩
  have u3 : Below W7.heap.size W7 x3 := below_tr u2 hx3
  have a2 := keep_cell hx3 a2
  have b2 := keep_cell hx3 b2
  have d2 := keep_cell hx3 d2
  have e2 := keep_cell hx3 e2
  have p2 := keep_cell hx3 p2
  have r2 := keep_cell hx3 r2
  have a3 := keep_cell hx3 a3
  have b3 := keep_cell hx3 b3
  have d3 := keep_cell hx3 d3
  have e3 := keep_cell hx3 e3
  have p3 := keep_cell hx3 p3
  have r3 := keep_cell hx3 r3
  have a4 := keep_cell hx3 a4
  have b4 := keep_cell hx3 b4
  have d4 := keep_cell hx3 d4
  have e4 := keep_cell hx3 e4
  have p4 := keep_cell hx3 p4
  have r4 := keep_cell hx3 r4
  have a5 := keep_cell hx3 a5
  have b5 := keep_cell hx3 b5
  have d5 := keep_cell hx3 d5
  have e5 := keep_cell hx3 e5
  have p5 := keep_cell hx3 p5
  have r5 := keep_cell hx3 r5
  have a6 := keep_cell hx3 a6
  have b6 := keep_cell hx3 b6
  have d6 := keep_cell hx3 d6
  have e6 := keep_cell hx3 e6
  have p6 := keep_cell hx3 p6
  have r6 := keep_cell hx3 r6
  have a7 := keep_cell hx3 a7
  have b7 := keep_cell hx3 b7
  have d7 := keep_cell hx3 d7
  have e7 := keep_cell hx3 e7
  have p7 := keep_cell hx3 p7
  have r7 := keep_cell hx3 r7
  clear hx3 u2
  go_wp2_with fail
  refine (Z0.out _ u3).mono ?_
  rintro e x4 ⟨rfl, hx4⟩
  have u4 : Below W7.heap.size W7 x4 := below_tr u3 hx4
  have a2 := keep_cell hx4 a2
  have b2 := keep_cell hx4 b2
  have d2 := keep_cell hx4 d2
  have e2 := keep_cell hx4 e2
  have p2 := keep_cell hx4 p2
  have r2 := keep_cell hx4 r2
  have a3 := keep_cell hx4 a3
  have b3 := keep_cell hx4 b3
  have d3 := keep_cell hx4 d3
  have e3 := keep_cell hx4 e3
  have p3 := keep_cell hx4 p3
  have r3 := keep_cell hx4 r3
  have a4 := keep_cell hx4 a4
  have b4 := keep_cell hx4 b4
  have d4 := keep_cell hx4 d4
  have e4 := keep_cell hx4 e4
  have p4 := keep_cell hx4 p4
  have r4 := keep_cell hx4 r4
  have a5 := keep_cell hx4 a5
  have b5 := keep_cell hx4 b5
  have d5 := keep_cell hx4 d5
  have e5 := keep_cell hx4 e5
  have p5 := keep_cell hx4 p5
  have r5 := keep_cell hx4 r5
  have a6 := keep_cell hx4 a6
  have b6 := keep_cell hx4 b6
  have d6 := keep_cell hx4 d6
  have e6 := keep_cell hx4 e6
  have p6 := keep_cell hx4 p6
  have r6 := keep_cell hx4 r6
  have a7 := keep_cell hx4 a7
  have b7 := keep_cell hx4 b7
  have d7 := keep_cell hx4 d7
  have e7 := keep_cell hx4 e7
  have p7 := keep_cell hx4 p7
  have r7 := keep_cell hx4 r7
  clear hx4 u3
  go_wp2_with fail
  refine (Z1.out _ u4).mono ?_
  rintro e x5 ⟨rfl, hx5⟩
  have u5 : Below W7.heap.size W7 x5 := below_tr u4 hx5
  have a2 := keep_cell hx5 a2
  have b2 := keep_cell hx5 b2
  have d2 := keep_cell hx5 d2
  have e2 := keep_cell hx5 e2
  have p2 := keep_cell hx5 p2
  have r2 := keep_cell hx5 r2
  have a3 := keep_cell hx5 a3
  have b3 := keep_cell hx5 b3
  have d3 := keep_cell hx5 d3
  have e3 := keep_cell hx5 e3
  have p3 := keep_cell hx5 p3
  have r3 := keep_cell hx5 r3
  have a4 := keep_cell hx5 a4
  have b4 := keep_cell hx5 b4
  have d4 := keep_cell hx5 d4
  have e4 := keep_cell hx5 e4
  have p4 := keep_cell hx5 p4
  have r4 := keep_cell hx5 r4
  have a5 := keep_cell hx5 a5
  have b5 := keep_cell hx5 b5
  have d5 := keep_cell hx5 d5
  have e5 := keep_cell hx5 e5
  have p5 := keep_cell hx5 p5
  have r5 := keep_cell hx5 r5
  have a6 := keep_cell hx5 a6
  have b6 := keep_cell hx5 b6
  have d6 := keep_cell hx5 d6
  have e6 := keep_cell hx5 e6
  have p6 := keep_cell hx5 p6
  have r6 := keep_cell hx5 r6
  have a7 := keep_cell hx5 a7
  have b7 := keep_cell hx5 b7
  have d7 := keep_cell hx5 d7
  have e7 := keep_cell hx5 e7
  have p7 := keep_cell hx5 p7
  have r7 := keep_cell hx5 r7
  clear hx5 u4
  go_wp2_with fail
  refine (Z2.out _ u5).mono ?_
  rintro e x6 ⟨rfl, hx6⟩
  have u6 : Below W7.heap.size W7 x6 := below_tr u5 hx6
  have a2 := keep_cell hx6 a2
  have b2 := keep_cell hx6 b2
  have d2 := keep_cell hx6 d2
  have e2 := keep_cell hx6 e2
  have p2 := keep_cell hx6 p2
  have r2 := keep_cell hx6 r2
  have a3 := keep_cell hx6 a3
  have b3 := keep_cell hx6 b3
  have d3 := keep_cell hx6 d3
  have e3 := keep_cell hx6 e3
  have p3 := keep_cell hx6 p3
  have r3 := keep_cell hx6 r3
  have a4 := keep_cell hx6 a4
  have b4 := keep_cell hx6 b4
  have d4 := keep_cell hx6 d4
  have e4 := keep_cell hx6 e4
  have p4 := keep_cell hx6 p4
  have r4 := keep_cell hx6 r4
  have a5 := keep_cell hx6 a5
  have b5 := keep_cell hx6 b5
  have d5 := keep_cell hx6 d5
  have e5 := keep_cell hx6 e5
  have p5 := keep_cell hx6 p5
  have r5 := keep_cell hx6 r5
  have a6 := keep_cell hx6 a6
  have b6 := keep_cell hx6 b6
  have d6 := keep_cell hx6 d6
  have e6 := keep_cell hx6 e6
  have p6 := keep_cell hx6 p6
  have r6 := keep_cell hx6 r6
  have a7 := keep_cell hx6 a7
  have b7 := keep_cell hx6 b7
  have d7 := keep_cell hx6 d7
  have e7 := keep_cell hx6 e7
  have p7 := keep_cell hx6 p7
  have r7 := keep_cell hx6 r7
  clear hx6 u5
  go_wp2_with fail
  refine (awake9 _).mono ?_
  rintro e wz ⟨rfl, hbz⟩
  go_wp2
  go_ret
  exact ⟨rfl, below_tr HB.out (below_tr t7 (below_tr u6 hbz))⟩
end Go.Proofs.Ytdhjmghfiodifaa
