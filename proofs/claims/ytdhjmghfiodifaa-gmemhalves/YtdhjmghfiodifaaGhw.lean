/- What is proved here: a number of 4 bytes is that of its halves, bytes in two pieces are the whole: in plain words. -/
import Derived.Test.YtdhjmghfiodifaaGby
namespace Go.Proofs.Ytdhjmghfiodifaa
open Go.RowKit
set_option linter.unusedVariables false
set_option linter.unusedSimpArgs false
set_option maxRecDepth 100000
theorem gk_high {ps : List (Nat × Int)} {asked : Int} {p : Nat} (hp : ∀ x ∈ ps, x.1 < 1048576) (h : gk ps asked p = 0) : p < 4294967296 := by
  obtain ⟨x, hx, e⟩ := gk_page h
  have := hp x hx
  omega
/-- Bytes in two pieces. -/
theorem halves_by {ms cs ps : List (Nat × Int)} {bs a n m : Nat} {asked : Int} (hf : FitG ms cs ps bs) (hw : Words cs) (ha : a < 4294967296) (h : (ffN ps a (n + m) asked).1 = 0) :
    (ffN ps a n asked).1 = 0 ∧ (m = 0 ∨ a + n < 4294967296 ∧ (ffN ps (a + n) m asked).1 = 0 ∧ tdL ms cs ps bs a (n + m) asked = tdL ms cs ps bs a n asked ++ tdL ms cs ps bs (a + n) m asked) := by
  obtain ⟨h1, h2⟩ := (ffN_bytes ps a (n + m) asked).1 h
  have e1 : (ffN ps a n asked).1 = 0 := (ffN_bytes ps a n asked).2 ⟨by omega, fun i hi => h2 i (by omega)⟩
  refine ⟨e1, ?_⟩
  by_cases hm : m = 0
  · exact Or.inl hm
  · refine Or.inr ?_
    have hlt := gk_high (fun x hx => (hf.pg x hx).1) (h2 n (by omega))
    have e2 : (ffN ps (a + n) m asked).1 = 0 := (ffN_bytes ps (a + n) m asked).2 ⟨by omega, fun i hi => by rw [Nat.add_assoc]; exact h2 (n + i) (by omega)⟩
    refine ⟨hlt, e2, ?_⟩
    rw [tdL_by hf hw ha h, tdL_by hf hw ha e1, tdL_by hf hw hlt e2, byL_add, Nat.add_assoc]
theorem byL_size (cs : List (Nat × Int)) (p n : Nat) : (⟨(byL cs p n).toArray⟩ : ByteArray).size = n := by
  show (byL cs p n).toArray.size = n
  rw [List.size_toArray, byL_length]
/-- A number of 4 bytes is that of its halves. -/
theorem halves_ld {ms cs ps : List (Nat × Int)} {bs a : Nat} (hf : FitG ms cs ps bs) (hw : Words cs) (ha : a < 4294967296) (h : (ldF ps a 4).1 = 0) :
    a + 2 < 4294967296 ∧ (ldF ps a 2).1 = 0 ∧ (ldF ps (a + 2) 2).1 = 0 ∧ ldV ms cs ps bs a 4 = ldV ms cs ps bs a 2 * 65536 + ldV ms cs ps bs (a + 2) 2 := by
  have h4 : ∀ p, ldF ps p 4 = ffN ps p 4 1 := fun p => rfl
  have h2 : ∀ p, ldF ps p 2 = ffN ps p 2 1 := fun p => rfl
  have v4 : ∀ p, ldV ms cs ps bs p 4 = W.beS ⟨(tdL ms cs ps bs p 4 1).toArray⟩ := fun p => rfl
  have v2 : ∀ p, ldV ms cs ps bs p 2 = W.beS ⟨(tdL ms cs ps bs p 2 1).toArray⟩ := fun p => rfl
  rw [h4] at h
  rw [h2, h2, v4, v2, v2]
  obtain ⟨e1, e2⟩ := halves_by (n := 2) (m := 2) hf hw ha h
  rcases e2 with e2 | ⟨e2, e3, e4⟩
  · omega
  · refine ⟨e2, e1, e3, ?_⟩
    rw [e4, tdL_by hf hw ha e1, tdL_by hf hw e2 e3]
    obtain ⟨x, y, hxy⟩ : ∃ x y, byL cs (bs + a) 2 = [x, y] := ⟨_, _, rfl⟩
    obtain ⟨z, t, hzt⟩ : ∃ x y, byL cs (bs + (a + 2)) 2 = [x, y] := ⟨_, _, rfl⟩
    rw [hxy, hzt]
    simp [W.beS, W.beL, ByteArray.size]
    omega
end Go.Proofs.Ytdhjmghfiodifaa
namespace Go.Proofs.Ytdhjmghfiodifaa
open Go.RowKit
set_option linter.unusedVariables false
set_option linter.unusedSimpArgs false
set_option maxRecDepth 100000
theorem or_16 (x y : Nat) (hx : x < 65536) (hy : y < 65536) : bits .or .u64 (IntKind.u64.wrap ((x : Int) * 65536)) (y : Int) = ((x * 65536 + y : Nat) : Int) := by
  rw [show IntKind.u64.wrap ((x : Int) * 65536) = ((x * 65536 : Nat) : Int) by rw [IntKind.wrap_u64]; omega, or64 _ _ (by omega) (by omega)]
  have h := Nat.shiftLeft_add_eq_or_of_lt (show y < 2 ^ 16 from hy) x
  rw [Nat.shiftLeft_eq] at h
  rw [show x * 65536 + y = x * 2 ^ 16 + y from rfl, h]
theorem td_len (ms cs ps : List (Nat × Int)) (bs p k : Nat) (q : Int) : (tdL ms cs ps bs p k q).length ≤ k := by
  unfold tdL
  split
  · rw [rdL_len, offP_full]; exact Nat.le_refl _
  · simp
theorem ld2_lt (ms cs ps : List (Nat × Int)) (bs p : Nat) : ldV ms cs ps bs p 2 < 65536 := by
  have hl : (tdL ms cs ps bs p 2 1).length ≤ 2 := by
    unfold tdL
    split
    · rw [rdL_len, offP_full]; exact Nat.le_refl _
    · simp
  rw [show ldV ms cs ps bs p 2 = W.beS ⟨(tdL ms cs ps bs p 2 1).toArray⟩ from rfl, W.beS]
  split
  · refine Nat.lt_of_lt_of_le (W.beL_lt _) (Nat.le_trans (Nat.pow_le_pow_right (by decide) (show _ ≤ 2 from ?_)) (by decide))
    simpa using hl
  · decide
set_option maxHeartbeats 1000000 in
theorem halves_walk (vm vc vp : Value) (ms cs ps : List (Nat × Int)) (bs a n m : Nat) (w : World) (hsl : SlG w vm vc vp ms cs ps) (hrc : ∀ y ∈ cs, y.1 < 18446744073709551616) (hw : Words cs) (hbs : bs < 18446744073709551616) (ha : a < 4294967296) (hn : n < 256) (hm : m < 256) :
    Calls Try.prog 6 #[.agg #[vm, vc, .int .u64 (bs : Int), vp], .int .u32 (a : Int), .int .u8 (n : Int), .int .u8 (m : Int)] w fun e w' => e = .returned (.bool true) ∧ Below w.heap.size w w' := by
  obtain ⟨am, pm, rfl, _⟩ := id hsl.1
  obtain ⟨ac, pc, rfl, _⟩ := id hsl.2.1
  obtain ⟨ap, pp, rfl, _⟩ := id hsl.2.2
  obtain ⟨nm, hnm⟩ : ∃ z, z = ms.length := ⟨_, rfl⟩
  obtain ⟨nc, hnc⟩ : ∃ z, z = cs.length := ⟨_, rfl⟩
  obtain ⟨np, hnp⟩ : ∃ z, z = ps.length := ⟨_, rfl⟩
  rw [← hnm, ← hnc, ← hnp] at hsl ⊢
  clear hnm hnc hnp
  obtain ⟨W, hW⟩ : ∃ z, w.alloc (.cells #[.slice am nm pm, .slice ac nc pc, .int .u64 (bs : Int), .slice ap np pp] 29) = z := ⟨_, rfl⟩
  have D0 : B4 W w.heap.size 29 (.slice am nm pm) (.slice ac nc pc) (.int .u64 (bs : Int)) (.slice ap np pp) := by rw [← hW]; exact B4.new w 29 _ _ _ _
  have hb : Below w.heap.size w W := by rw [← hW]; exact (Below.refl _ _).alloc (Nat.le_refl _) _
  have K8 := gfew8 _ _ _ ms cs ps bs W (hsl.keep hb) hrc hbs
  obtain ⟨c0, c1, c2, c3⟩ := D0.cells
  cases hfw : fewB ms cs ps bs with
  | false =>
    rw [hfw] at K8
    have HB : Hid (Below w.heap.size w W) := hb
    clear hsl hb hfw
    go_enter Try.func6, Try.ntmps6
    go_wp2_with fail
    refine K8.mono ?_
    rintro e w1 ⟨rfl, hb1⟩
    go_wp2_with fail
    refine (awake9 w1).mono ?_
    rintro e wz ⟨rfl, hbz⟩
    go_wp2
    go_ret
    exact ⟨rfl, below_tr HB.out (below_tr hb1 hbz)⟩
  | true =>
  rw [hfw] at K8
  have hfq : FitG ms cs ps bs := by
    unfold fewB at hfw
    rw [Bool.and_eq_true] at hfw
    exact of_fitGB hfw.2
  have HG : Hid (∀ w', Below W.heap.size W w' → GdM w' (.slice am nm pm) (.slice ac nc pc) (.slice ap np pp) ms cs ps bs) := fun w' hb' => by
    have h := hsl.keep (below_tr hb hb')
    have l1 := hfq.fq.1
    have l2 := hfq.fq.2.1
    have l3 := hfq.lp
    exact ⟨h.1, h.2.1, h.2.2, hfq.fq.2.2.1, hfq.fq.2.2.2.1, hfq.sp, by omega, by omega, by omega, hw, hfq.le⟩
  obtain ⟨a2, ha2⟩ : ∃ z, z = (a + 2) % 4294967296 := ⟨_, rfl⟩
  obtain ⟨an, han⟩ : ∃ z, z = (a + n) % 4294967296 := ⟨_, rfl⟩
  have w2 : IntKind.u32.wrap ((a : Int) + 2) = (a2 : Int) := by rw [IntKind.wrap_u32]; omega
  have wn : IntKind.u32.wrap ((a : Int) + (n : Int)) = (an : Int) := by rw [IntKind.wrap_u32]; omega
  have wc : IntKind.u32.wrap (n : Int) = (n : Int) := by rw [IntKind.wrap_u32]; omega
  have wd : IntKind.u32.wrap (m : Int) = (m : Int) := by rw [IntKind.wrap_u32]; omega
  obtain ⟨nm2, hnm2⟩ : ∃ z, z = n + m := ⟨_, rfl⟩
  have we : IntKind.u32.wrap ((n : Int) + (m : Int)) = (nm2 : Int) := by rw [IntKind.wrap_u32]; omega
  obtain ⟨v1, hv1⟩ : ∃ z, z = ldV ms cs ps bs a 4 := ⟨_, rfl⟩
  obtain ⟨v2, hv2⟩ : ∃ z, z = ldV ms cs ps bs a 2 := ⟨_, rfl⟩
  obtain ⟨v3, hv3⟩ : ∃ z, z = ldV ms cs ps bs a2 2 := ⟨_, rfl⟩
  obtain ⟨k1, hk1⟩ : ∃ z, z = (ldF ps a 4).1 := ⟨_, rfl⟩
  obtain ⟨k2, hk2⟩ : ∃ z, z = (ldF ps a 2).1 := ⟨_, rfl⟩
  obtain ⟨k3, hk3⟩ : ∃ z, z = (ldF ps a2 2).1 := ⟨_, rfl⟩
  obtain ⟨x1, hx1⟩ : ∃ z, z = (ldF ps a 4).2 := ⟨_, rfl⟩
  obtain ⟨x2, hx2⟩ : ∃ z, z = (ldF ps a 2).2 := ⟨_, rfl⟩
  obtain ⟨x3, hx3⟩ : ∃ z, z = (ldF ps a2 2).2 := ⟨_, rfl⟩
  have HL : Hid (k1 = 0 → k2 = 0 ∧ k3 = 0 ∧ bits .or .u64 (IntKind.u64.wrap ((v2 : Int) * 65536)) (v3 : Int) = (v1 : Int)) := fun h0 => by
    rw [hk1] at h0
    obtain ⟨e1, e2, e3, e4⟩ := halves_ld (ms := ms) (cs := cs) (bs := bs) hfq hw ha h0
    have e5 : a2 = a + 2 := by omega
    rw [hk2, hk3, hv1, hv2, hv3, e5, or_16 _ _ (ld2_lt _ _ _ _ _) (ld2_lt _ _ _ _ _), e4]
    exact ⟨e2, e3, rfl⟩
  obtain ⟨S0, hS0⟩ : ∃ z : ByteArray, z = ⟨(tdL ms cs ps bs a nm2 1).toArray⟩ := ⟨_, rfl⟩
  obtain ⟨S1, hS1⟩ : ∃ z : ByteArray, z = ⟨(tdL ms cs ps bs a n 1).toArray⟩ := ⟨_, rfl⟩
  obtain ⟨S2, hS2⟩ : ∃ z : ByteArray, z = ⟨(tdL ms cs ps bs an m 1).toArray⟩ := ⟨_, rfl⟩
  obtain ⟨j0, hj0⟩ : ∃ z, z = (ffN ps a nm2 1).1 := ⟨_, rfl⟩
  obtain ⟨j1, hj1⟩ : ∃ z, z = (ffN ps a n 1).1 := ⟨_, rfl⟩
  obtain ⟨j2, hj2⟩ : ∃ z, z = (ffN ps an m 1).1 := ⟨_, rfl⟩
  obtain ⟨y0, hy0⟩ : ∃ z, z = (ffN ps a nm2 1).2 := ⟨_, rfl⟩
  obtain ⟨y1, hy1⟩ : ∃ z, z = (ffN ps a n 1).2 := ⟨_, rfl⟩
  obtain ⟨y2, hy2⟩ : ∃ z, z = (ffN ps an m 1).2 := ⟨_, rfl⟩
  have HS : Hid ((j0 ≠ 0 → S0 = ⟨#[]⟩) ∧ (j0 = 0 → j1 = 0 ∧ (m = 0 ∨ j2 = 0 ∧ S1 ++ S2 = S0))) := by
    refine ⟨fun h0 => ?_, fun h0 => ?_⟩
    · rw [hj0] at h0
      rw [hS0, tdL, if_neg h0]
    · rw [hj0, hnm2] at h0
      obtain ⟨e1, e2⟩ := halves_by (ms := ms) (cs := cs) (bs := bs) hfq hw ha h0
      refine ⟨by rw [hj1]; exact e1, ?_⟩
      rcases e2 with e2 | ⟨e2, e3, e4⟩
      · exact Or.inl e2
      · have e5 : an = a + n := by omega
        refine Or.inr ⟨by rw [hj2, e5]; exact e3, ?_⟩
        rw [hS0, hS1, hS2, hnm2, e5, e4]
        apply ByteArray.ext
        apply Array.toList_inj.1
        simp
  have HSZ : Hid (∀ w' : World, (Op.stringOp .add S1 S2).run Try.prog w' = .ok (.string (S1 ++ S2)) w') := fun w' => by
    refine run_string_add_sum w' _ _ ?_
    have q1 : S1.size ≤ n := by rw [hS1]; show (tdL ms cs ps bs a n 1).toArray.size ≤ n; rw [List.size_toArray]; exact td_len _ _ _ _ _ _ _
    have q2 : S2.size ≤ m := by rw [hS2]; show (tdL ms cs ps bs an m 1).toArray.size ≤ m; rw [List.size_toArray]; exact td_len _ _ _ _ _ _ _
    omega
  have KA : Hid (∀ w', Below W.heap.size W w' → Calls Try.prog 10 #[.agg #[.slice am nm pm, .slice ac nc pc, .int .u64 (bs : Int), .slice ap np pp], .int .u32 (a : Int), .int .u32 (nm2 : Int)] w' fun e w'' => e = .returned (.tuple #[.string S0, .agg #[.int .i64 j0, .int .u64 (y0 : Int)]]) ∧ Below w'.heap.size w' w'') := fun w' hb' => by rw [hS0, hj0, hy0]; exact gbytes10 _ _ _ bs a nm2 ms cs ps w' (HG.out w' hb') ha (by omega)
  have KB : Hid (∀ w', Below W.heap.size W w' → Calls Try.prog 10 #[.agg #[.slice am nm pm, .slice ac nc pc, .int .u64 (bs : Int), .slice ap np pp], .int .u32 (a : Int), .int .u32 (n : Int)] w' fun e w'' => e = .returned (.tuple #[.string S1, .agg #[.int .i64 j1, .int .u64 (y1 : Int)]]) ∧ Below w'.heap.size w' w'') := fun w' hb' => by rw [hS1, hj1, hy1]; exact gbytes10 _ _ _ bs a n ms cs ps w' (HG.out w' hb') ha (by omega)
  have KC : Hid (∀ w', Below W.heap.size W w' → Calls Try.prog 10 #[.agg #[.slice am nm pm, .slice ac nc pc, .int .u64 (bs : Int), .slice ap np pp], .int .u32 (an : Int), .int .u32 (m : Int)] w' fun e w'' => e = .returned (.tuple #[.string S2, .agg #[.int .i64 j2, .int .u64 (y2 : Int)]]) ∧ Below w'.heap.size w' w'') := fun w' hb' => by rw [hS2, hj2, hy2]; exact gbytes10 _ _ _ bs an m ms cs ps w' (HG.out w' hb') (by omega) (by omega)
  have K1 : Hid (∀ w', Below W.heap.size W w' → Calls Try.prog 12 #[.agg #[.slice am nm pm, .slice ac nc pc, .int .u64 (bs : Int), .slice ap np pp], .int .u32 (a : Int), .int .i64 4] w' fun e w'' => e = .returned (.tuple #[.int .u64 (v1 : Int), .agg #[.int .i64 k1, .int .u64 (x1 : Int)]]) ∧ Below w'.heap.size w' w'') := fun w' hb' => by rw [hv1, hk1, hx1]; exact gload12 _ _ _ bs a 4 ms cs ps w' (HG.out w' hb') ha
  have K2 : Hid (∀ w', Below W.heap.size W w' → Calls Try.prog 12 #[.agg #[.slice am nm pm, .slice ac nc pc, .int .u64 (bs : Int), .slice ap np pp], .int .u32 (a : Int), .int .i64 2] w' fun e w'' => e = .returned (.tuple #[.int .u64 (v2 : Int), .agg #[.int .i64 k2, .int .u64 (x2 : Int)]]) ∧ Below w'.heap.size w' w'') := fun w' hb' => by rw [hv2, hk2, hx2]; exact gload12 _ _ _ bs a 2 ms cs ps w' (HG.out w' hb') ha
  have K3 : Hid (∀ w', Below W.heap.size W w' → Calls Try.prog 12 #[.agg #[.slice am nm pm, .slice ac nc pc, .int .u64 (bs : Int), .slice ap np pp], .int .u32 (a2 : Int), .int .i64 2] w' fun e w'' => e = .returned (.tuple #[.int .u64 (v3 : Int), .agg #[.int .i64 k3, .int .u64 (x3 : Int)]]) ∧ Below w'.heap.size w' w'') := fun w' hb' => by rw [hv3, hk3, hx3]; exact gload12 _ _ _ bs a2 2 ms cs ps w' (HG.out w' hb') (by omega)
  have HB : Hid (Below w.heap.size w W) := hb
  have HFW : Hid (FitG ms cs ps bs ∧ Words cs ∧ a < 4294967296 ∧ nm2 = n + m ∧ n < 256 ∧ m < 256 ∧ an = (a + n) % 4294967296) := ⟨hfq, hw, ha, hnm2, hn, hm, han⟩
  clear hS0 hS1 hS2 hj0 hj1 hj2 hy0 hy1 hy2 hsl hb hfw hfq hw hrc hv1 hv2 hv3 hk1 hk2 hk3 hx1 hx2 hx3 ha2 han hnm2
  go_enter Try.func6, Try.ntmps6
  go_wp2_with fail
  refine K8.mono ?_
  rintro e w1 ⟨rfl, hb1⟩
  clear K8
  have D0 := D0.keep hb1
  obtain ⟨c0, c1, c2, c3⟩ := D0.cells
  have R1 := K1.out w1 hb1
  go_wp2_with fail
  refine R1.mono ?_
  rintro e w2' ⟨rfl, hb2⟩
  clear R1 K1
  obtain ⟨Wa2, W2, hWa2, hW2, ⟨qa2, qb2, qc2, qd2⟩, G2, bb2⟩ := newF w2' (.int .i64 k1) (.int .u64 (x1 : Int))
  have D0 := (D0.keep hb2).keep bb2
  obtain ⟨c0, c1, c2, c3⟩ := D0.cells
  have t2 := below_tr hb1 (below_tr hb2 bb2)
  have R2 := K2.out W2 t2
  clear hb1 hb2 bb2
  go_wp2_with fail
  refine R2.mono ?_
  rintro e w3 ⟨rfl, hb3⟩
  clear R2 K2
  obtain ⟨Wa3, W3, hWa3, hW3, ⟨qa3, qb3, qc3, qd3⟩, G3, bb3⟩ := newF w3 (.int .i64 k2) (.int .u64 (x2 : Int))
  have D0 := (D0.keep hb3).keep bb3
  have G2 := (G2.keep hb3).keep bb3
  obtain ⟨c0, c1, c2, c3⟩ := D0.cells
  have t3 := below_tr t2 (below_tr hb3 bb3)
  have R3 := K3.out W3 t3
  clear hb3 bb3 t2
  go_wp2_with fail
  refine R3.mono ?_
  rintro e w4 ⟨rfl, hb4⟩
  clear R3 K3
  obtain ⟨Wa4, W4, hWa4, hW4, ⟨qa4, qb4, qc4, qd4⟩, G4, bb4⟩ := newF w4 (.int .i64 k3) (.int .u64 (x3 : Int))
  have D0 := (D0.keep hb4).keep bb4
  have G2 := (G2.keep hb4).keep bb4
  have G3 := (G3.keep hb4).keep bb4
  obtain ⟨c0, c1, c2, c3⟩ := D0.cells
  have g2 := G2.c0
  have g3 := G3.c0
  have g4 := G4.c0
  have t4 := below_tr t3 (below_tr hb4 bb4)
  clear hb4 bb4 t3
  by_cases hz : k1 = 0
  · subst hz
    obtain ⟨e2, e3, hor⟩ := HL.out rfl
    subst e2
    subst e3
    clear HL
    have RA := KA.out W4 t4
    go_wp2_with fail
    refine RA.mono ?_
    rintro e w5 ⟨rfl, hb5⟩
    clear RA KA
    obtain ⟨Wa5, W5, hWa5, hW5, ⟨qa5, qb5, qc5, qd5⟩, G5, bb5⟩ := newF w5 (.int .i64 j0) (.int .u64 (y0 : Int))
    have D0 := (D0.keep hb5).keep bb5
    obtain ⟨c0, c1, c2, c3⟩ := D0.cells
    have g5 := G5.c0
    have t5 := below_tr t4 (below_tr hb5 bb5)
    clear hb5 bb5 t4
    by_cases hj : j0 = 0
    · subst hj
      obtain ⟨e1, e2⟩ := HS.out.2 rfl
      subst e1
      clear HS
      have RB := KB.out W5 t5
      go_wp2_with fail
      refine RB.mono ?_
      rintro e w6 ⟨rfl, hb6⟩
      clear RB KB
      obtain ⟨Wa6, W6, hWa6, hW6, ⟨qa6, qb6, qc6, qd6⟩, G6, bb6⟩ := newF w6 (.int .i64 0) (.int .u64 (y1 : Int))
      have D0 := (D0.keep hb6).keep bb6
      obtain ⟨c0, c1, c2, c3⟩ := D0.cells
      have t6 := below_tr t5 (below_tr hb6 bb6)
      have RC := KC.out W6 t6
      clear hb6 bb6 t5
      go_wp2_with fail
      refine RC.mono ?_
      rintro e w7 ⟨rfl, hb7⟩
      clear RC KC
      obtain ⟨Wa7, W7, hWa7, hW7, ⟨qa7, qb7, qc7, qd7⟩, G7, bb7⟩ := newF w7 (.int .i64 j2) (.int .u64 (y2 : Int))
      have G6 := (G6.keep hb7).keep bb7
      have g6 := G6.c0
      have g7 := G7.c0
      have t7 := below_tr t6 (below_tr hb7 bb7)
      clear hb7 bb7 t6
      rcases e2 with e2 | ⟨e2, e3⟩
      · subst e2
        go_wp2_with fail
        refine (awake9 _).mono ?_
        rintro e wz ⟨rfl, hbz⟩
        go_wp2
        go_ret
        exact ⟨rfl, below_tr HB.out (below_tr t7 hbz)⟩
      · subst e2
        by_cases hm0 : m = 0
        · subst hm0
          go_wp2_with fail
          refine (awake9 _).mono ?_
          rintro e wz ⟨rfl, hbz⟩
          go_wp2
          go_ret
          exact ⟨rfl, below_tr HB.out (below_tr t7 hbz)⟩
        · have hm1 : ((m : Int) = 0) = False := by simp [hm0]
          have hm2 : ((m : Int) == 0) = false := by simp [hm0]
          have hcat : ∀ w' : World, (Op.stringOp .add S1 S2).run Try.prog w' = .ok (.string S0) w' := fun w' => by rw [← e3]; exact HSZ.out w'
          clear e3
          go_wp2_with fail
          refine (awake9 _).mono ?_
          rintro e wz ⟨rfl, hbz⟩
          go_wp2
          go_ret
          exact ⟨rfl, below_tr HB.out (below_tr t7 hbz)⟩
    · have hS := HS.out.1 hj
      subst hS
      have hj3 : (j0 = 0) = False := by simp [hj]
      have hj4 : (j0 == 0) = false := by simp [hj]
      have hj5 : (j0 != 0) = true := by simp [hj]
      clear HS
      go_wp2_with fail
      refine (awake9 _).mono ?_
      rintro e wz ⟨rfl, hbz⟩
      go_wp2
      go_ret
      exact ⟨rfl, below_tr HB.out (below_tr t5 hbz)⟩
  · have hz3 : (k1 = 0) = False := by simp [hz]
    have hz4 : (k1 == 0) = false := by simp [hz]
    clear HL
    have RA := KA.out W4 t4
    go_wp2_with fail
    refine RA.mono ?_
    rintro e w5 ⟨rfl, hb5⟩
    clear RA KA
    obtain ⟨Wa5, W5, hWa5, hW5, ⟨qa5, qb5, qc5, qd5⟩, G5, bb5⟩ := newF w5 (.int .i64 j0) (.int .u64 (y0 : Int))
    have D0 := (D0.keep hb5).keep bb5
    obtain ⟨c0, c1, c2, c3⟩ := D0.cells
    have g5 := G5.c0
    have t5 := below_tr t4 (below_tr hb5 bb5)
    clear hb5 bb5 t4
    by_cases hj : j0 = 0
    · subst hj
      obtain ⟨e1, e2⟩ := HS.out.2 rfl
      subst e1
      clear HS
      have RB := KB.out W5 t5
      go_wp2_with fail
      refine RB.mono ?_
      rintro e w6 ⟨rfl, hb6⟩
      clear RB KB
      obtain ⟨Wa6, W6, hWa6, hW6, ⟨qa6, qb6, qc6, qd6⟩, G6, bb6⟩ := newF w6 (.int .i64 0) (.int .u64 (y1 : Int))
      have D0 := (D0.keep hb6).keep bb6
      obtain ⟨c0, c1, c2, c3⟩ := D0.cells
      have t6 := below_tr t5 (below_tr hb6 bb6)
      have RC := KC.out W6 t6
      clear hb6 bb6 t5
      go_wp2_with fail
      refine RC.mono ?_
      rintro e w7 ⟨rfl, hb7⟩
      clear RC KC
      obtain ⟨Wa7, W7, hWa7, hW7, ⟨qa7, qb7, qc7, qd7⟩, G7, bb7⟩ := newF w7 (.int .i64 j2) (.int .u64 (y2 : Int))
      have G6 := (G6.keep hb7).keep bb7
      have g6 := G6.c0
      have g7 := G7.c0
      have t7 := below_tr t6 (below_tr hb7 bb7)
      clear hb7 bb7 t6
      rcases e2 with e2 | ⟨e2, e3⟩
      · subst e2
        go_wp2_with fail
        refine (awake9 _).mono ?_
        rintro e wz ⟨rfl, hbz⟩
        go_wp2
        go_ret
        exact ⟨rfl, below_tr HB.out (below_tr t7 hbz)⟩
      · subst e2
        by_cases hm0 : m = 0
        · subst hm0
          go_wp2_with fail
          refine (awake9 _).mono ?_
          rintro e wz ⟨rfl, hbz⟩
          go_wp2
          go_ret
          exact ⟨rfl, below_tr HB.out (below_tr t7 hbz)⟩
        · have hm1 : ((m : Int) = 0) = False := by simp [hm0]
          have hm2 : ((m : Int) == 0) = false := by simp [hm0]
          have hcat : ∀ w' : World, (Op.stringOp .add S1 S2).run Try.prog w' = .ok (.string S0) w' := fun w' => by rw [← e3]; exact HSZ.out w'
          clear e3
          go_wp2_with fail
          refine (awake9 _).mono ?_
          rintro e wz ⟨rfl, hbz⟩
          go_wp2
          go_ret
          exact ⟨rfl, below_tr HB.out (below_tr t7 hbz)⟩
    · have hS := HS.out.1 hj
      subst hS
      have hj3 : (j0 = 0) = False := by simp [hj]
      have hj4 : (j0 == 0) = false := by simp [hj]
      have hj5 : (j0 != 0) = true := by simp [hj]
      clear HS
      go_wp2_with fail
      refine (awake9 _).mono ?_
      rintro e wz ⟨rfl, hbz⟩
      go_wp2
      go_ret
      exact ⟨rfl, below_tr HB.out (below_tr t5 hbz)⟩
end Go.Proofs.Ytdhjmghfiodifaa
