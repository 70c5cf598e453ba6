/- What is proved here: the document's bytes, numbers and words. -/
import Derived.Test.YtdhjmghfiodifaaGrp
import Derived.Test.YtdhjmghfiodifaaGld
namespace Go.Proofs.Ytdhjmghfiodifaa
open Go.RowKit
set_option linter.unusedVariables false
set_option linter.unusedSimpArgs false
set_option maxRecDepth 100000
theorem ret_tuple {v : Value} {kd g : Int} {fa at_ : Nat} (h : (kd, fa) = (g, at_)) {u : Value} (hv : v = u) : Ending.returned (.tuple #[v, .agg #[.int .i64 g, .int .u64 (at_ : Int)]]) = .returned (.tuple #[u, .agg #[.int .i64 kd, .int .u64 (fa : Int)]]) := by
  cases h; cases hv; rfl
set_option maxHeartbeats 2000000 in
theorem rbytes11 (vm vc vp : Value) (bs a : Nat) (n : Nat) (ms cs ps : List (Nat × Int)) (w : World) (hsl : SlG w vm vc vp ms cs ps) (hf : FitG ms cs ps bs) (hw : Words cs) (ha : a < 4294967296) (hn : n < 4294967296) :
    Calls Try.prog 11 #[.agg #[vm, vc, .int .u64 (bs : Int), vp], .int .u32 (a : Int), .int .u32 (n : Int)] w fun e w' => e = .returned (.tuple #[.string ⟨(tdL ms cs ps bs a n 1).toArray⟩, .agg #[.int .i64 (ffN ps a n 1).1, .int .u64 ((ffN ps a n 1).2 : Int)]]) ∧ Below w.heap.size w w' := by
  obtain ⟨am, pm, rfl, _⟩ := id hsl.1
  obtain ⟨ac, pc, rfl, _⟩ := id hsl.2.1
  obtain ⟨ap, pp, rfl, _⟩ := id hsl.2.2
  obtain ⟨nm, hnm⟩ : ∃ z, z = ms.length := ⟨_, rfl⟩
  obtain ⟨nc, hnc⟩ : ∃ z, z = cs.length := ⟨_, rfl⟩
  obtain ⟨np, hnp⟩ : ∃ z, z = ps.length := ⟨_, rfl⟩
  rw [← hnm, ← hnc, ← hnp] at hsl ⊢
  clear hnm hnc hnp
  obtain ⟨X, hX, hb, hsz, c0, c1, c2, c3, g0, g1⟩ := box42 w (.slice am nm pm) (.slice ac nc pc) (.int .u64 (bs : Int)) (.slice ap np pp) (.int .i64 0) (.int .u64 0)
  have HFIN : Hid (∀ wq x y, Below X.heap.size X wq → (Free wq ⟨w.heap.size + 1, 0, none⟩ ∧ Free wq ⟨w.heap.size + 1, 1, none⟩) ∧ Below w.heap.size w ((wq.setCell ⟨w.heap.size + 1, 0, none⟩ x).setCell ⟨w.heap.size + 1, 1, none⟩ y) ∧ ((wq.setCell ⟨w.heap.size + 1, 0, none⟩ x).setCell ⟨w.heap.size + 1, 1, none⟩ y).cell? ⟨w.heap.size + 1, 0, none⟩ = some x ∧ ((wq.setCell ⟨w.heap.size + 1, 0, none⟩ x).setCell ⟨w.heap.size + 1, 1, none⟩ y).cell? ⟨w.heap.size + 1, 1, none⟩ = some y) := fun wq x y hbq => by
    have F0 : Free wq ⟨w.heap.size + 1, 0, none⟩ := ⟨⟨_, keep_cell hbq g0.cell⟩, keep_frozen hbq (by simp; omega) g0.frozen⟩
    have F1 : Free wq ⟨w.heap.size + 1, 1, none⟩ := ⟨⟨_, keep_cell hbq g1.cell⟩, keep_frozen hbq (by simp; omega) g1.frozen⟩
    obtain ⟨s0, s1⟩ := res2 wq (w.heap.size + 1) x y F0 F1
    exact ⟨⟨F0, F1⟩, ((below_tr hb hbq).setCell (by simp) _).setCell (by simp) _, s0, s1⟩
  have HT0 : Hid ((ffN ps a n 1).1 = 0 → tdL ms cs ps bs a n 1 = byL cs (bs + a) n) := fun h => tdL_by hf hw ha h
  have HT1 : Hid ((ffN ps a n 1).1 ≠ 0 → tdL ms cs ps bs a n 1 = []) := fun h => by show _ = _; rw [tdL, if_neg h]
  have hz := ffN_zero ps a n 1
  have HBIG : Hid (65536 < n → ffN ps a n 1 = (1, 0)) := fun h => by show _ = _; unfold ffN; rw [if_pos h]
  have KA : Hid (n ≤ 65536 → Calls Try.prog 32 #[.agg #[.slice am nm pm, .slice ac nc pc, .int .u64 (bs : Int), .slice ap np pp], .int .u32 (a : Int), .int .i64 (n : Int), .int .i64 1] X fun e w' => e = .returned (.agg #[.int .i64 (ffN ps a n 1).1, .int .u64 ((ffN ps a n 1).2 : Int)]) ∧ Below X.heap.size X w') := fun h => rask32 _ _ _ bs a n 1 ps X ⟨_, _, _, rfl⟩ ⟨_, _, _, rfl⟩ (hsl.keep hb).2.2 (fun x hx => (hf.pg x hx).1) (fun x hx => (hf.pg x hx).2.2.1) ha h (Or.inr (Or.inl rfl))
  have KP : Hid (n ≤ 65536 → ∀ w', Below X.heap.size X w' → Calls Try.prog 33 #[.agg #[.slice am nm pm, .slice ac nc pc, .int .u64 (bs : Int), .slice ap np pp], .int .u32 (a : Int), .int .i64 (n : Int)] w' fun e w'' => e = .returned (.string ⟨(byL cs (bs + a) n).toArray⟩) ∧ Below w'.heap.size w' w'') := fun h w' hb' => rpeek33 _ _ _ bs a n cs w' ⟨_, _, _, rfl⟩ ((hsl.keep hb).keep hb').2.1 ⟨_, _, _, rfl⟩ hw hf.le ha h
  obtain ⟨F, hF⟩ : ∃ z, z = ffN ps a n 1 := ⟨_, rfl⟩
  obtain ⟨T, hT⟩ : ∃ z, z = tdL ms cs ps bs a n 1 := ⟨_, rfl⟩
  obtain ⟨BY, hBY⟩ : ∃ z, z = byL cs (bs + a) n := ⟨_, rfl⟩
  rw [← hF] at HT0 HT1 hz HBIG KA ⊢
  rw [← hT] at HT0 HT1 ⊢
  rw [← hBY] at HT0 KP
  have HZ : Hid (F.1 = 0 → F = (0, 0)) := fun h => (hz h).1
  obtain ⟨kd, fa⟩ := F
  simp only at HT0 HT1 HBIG KA HZ ⊢
  clear hz hF hT hBY hsl hf hw g0 g1
  have wn : IntKind.i64.wrap (n : Int) = (n : Int) := by rw [IntKind.wrap_i64]; omega
  by_cases hbig : 65536 < n
  · have hb1 : (65536 : Int) < (n : Int) := by omega
    have HE : Hid ((kd, fa) = ((1, 0) : Int × Nat) ∧ T = []) := by
      have h := HBIG.out hbig
      refine ⟨h, HT1.out (by cases h; decide)⟩
    clear HBIG HT0 HT1 HZ KA KP
    go_enter Try.func11, Try.ntmps11
    obtain ⟨⟨F0, F1⟩, u0, u1, u2⟩ := HFIN.out X (.int .i64 1) (.int .u64 0) (Below.refl _ _)
    have q0 := F0.cell
    have q1 := F1.cell
    have q2 := F0.frozen
    have q3 := F1.frozen
    have HU : Hid _ := u0
    have HU1 : Hid _ := u1
    have HU2 : Hid _ := u2
    clear F0 F1 u0 u1 u2
    go_wp2
    have u1 := HU1.out
    have u2 := HU2.out
    refine bodyPost_ret (v := .tuple #[.string ⟨#[]⟩, .agg #[.int .i64 1, .int .u64 0]]) ?_ rfl ⟨ret_tuple HE.out.1 (by rw [HE.out.2]), HU.out⟩
    rw [results_tmp_cell rfl]; simp [go_sem, u1, u2]
  have hb1 : (n : Int) ≤ 65536 := by omega
  have R := KA.out (by omega)
  clear HBIG KA
  go_enter Try.func11, Try.ntmps11
  go_wp2_with fail
  refine R.mono ?_
  rintro e wy ⟨rfl, hby⟩
  clear R
  obtain ⟨Wa6, W6, hWa6, hW6, ⟨qa6, qb6, qc6, qd6⟩, G6, hb6⟩ := newF wy (.int .i64 kd) (.int .u64 (fa : Int))
  have hb7 := below_tr hby hb6
  have c0 := keep_cell hb7 c0
  have c1 := keep_cell hb7 c1
  have c2 := keep_cell hb7 c2
  have c3 := keep_cell hb7 c3
  have k0 := G6.c0
  have k1 := G6.c1
  have HB7 : Hid (Below X.heap.size X W6) := hb7
  clear hb6 hby G6 hb7
  by_cases h0 : kd = 0
  · have hb0 : (kd != 0) = false := by simp [h0]
    have HE : Hid ((kd, fa) = ((0, 0) : Int × Nat) ∧ T = BY) := ⟨HZ.out h0, HT0.out h0⟩
    have KP2 := KP.out (by omega)
    have HKP : Hid (∀ w', Below W6.drew.heap.size W6.drew w' → Calls Try.prog 33 #[.agg #[.slice am nm pm, .slice ac nc pc, .int .u64 (bs : Int), .slice ap np pp], .int .u32 (a : Int), .int .i64 (n : Int)] w' fun e w'' => e = .returned (.string ⟨BY.toArray⟩) ∧ Below w'.heap.size w' w'') := fun w' hb' => KP2 w' (below_tr HB7.out (below_tr (Below.refl W6.heap.size W6).drew hb'))
    have HK : Hid (∀ wq, Below W6.drew.heap.size W6.drew wq → wq.cell? ⟨wy.heap.size, 0, none⟩ = some (.int .i64 kd) ∧ wq.cell? ⟨wy.heap.size, 1, none⟩ = some (.int .u64 (fa : Int)) ∧ (∃ c, wq.cell? ⟨w.heap.size + 1, 0, none⟩ = some c) ∧ (∃ c, wq.cell? ⟨w.heap.size + 1, 1, none⟩ = some c) ∧ wq.frozen? ⟨w.heap.size + 1, 0, none⟩ = false ∧ wq.frozen? ⟨w.heap.size + 1, 1, none⟩ = false) := fun wq hbq => by
      have hb' := below_tr (Below.refl W6.heap.size W6).drew hbq
      obtain ⟨⟨F0, F1⟩, _⟩ := HFIN.out wq (.int .i64 kd) (.int .u64 (fa : Int)) (below_tr HB7.out hb')
      exact ⟨keep_cell hb' k0, keep_cell hb' k1, ⟨_, F0.cell⟩, ⟨_, F1.cell⟩, F0.frozen, F1.frozen⟩
    have HEND : Hid (∀ wq, Below W6.drew.heap.size W6.drew wq → _) := fun wq hbq => HFIN.out wq (.int .i64 kd) (.int .u64 (fa : Int)) (below_tr HB7.out (below_tr (Below.refl W6.heap.size W6).drew hbq))
    clear h0 KP2 KP HT0 HT1 HZ
    go_wp2
    go_region_with (refine (HKP.out _ (Below.refl _ _)).mono ?_; rintro e wG ⟨rfl, hbG⟩; obtain ⟨k2, k3, ⟨_, q0⟩, ⟨_, q1⟩, q2, q3⟩ := HK.out wG hbG)
    all_goals (
      go_wp2
      obtain ⟨_, u0, u1, u2⟩ := HEND.out wG hbG
      refine bodyPost_ret (v := .tuple #[.string ⟨BY.toArray⟩, .agg #[.int .i64 kd, .int .u64 (fa : Int)]]) ?_ rfl ⟨by rw [HE.out.2], u0⟩
      rw [results_tmp_cell rfl]; simp [go_sem, u1, u2])
  · have hb0 : (kd != 0) = true := by simp [h0]
    have HE : Hid (T = []) := HT1.out h0
    clear h0 HT0 HT1 HZ KP
    obtain ⟨⟨F0, F1⟩, u0, u1, u2⟩ := HFIN.out W6 (.int .i64 kd) (.int .u64 (fa : Int)) HB7.out
    have q0 := F0.cell
    have q1 := F1.cell
    have q2 := F0.frozen
    have q3 := F1.frozen
    have HU : Hid _ := u0
    have HU1 : Hid _ := u1
    have HU2 : Hid _ := u2
    clear F0 F1 u0 u1 u2
    go_wp2
    go_region
    all_goals (
      go_wp2
      have u1 := HU1.out
      have u2 := HU2.out
      refine bodyPost_ret (v := .tuple #[.string ⟨#[]⟩, .agg #[.int .i64 kd, .int .u64 (fa : Int)]]) ?_ rfl ⟨by rw [HE.out], HU.out.drew⟩
      rw [results_tmp_cell rfl]; simp [go_sem, u1, u2])
theorem sized36 (n : Int) (w : World) : Calls Try.prog 36 #[.int .i64 n] w fun e w' => e = .returned (.bool (isW n)) ∧ w' = w := by
  by_cases h1 : n = 1
  · subst h1; go_enter Try.func36, Try.ntmps36; go_wp2; go_ret; exact ⟨rfl, rfl⟩
  by_cases h2 : n = 2
  · subst h2; go_enter Try.func36, Try.ntmps36; go_wp2; go_ret; exact ⟨rfl, rfl⟩
  by_cases h4 : n = 4
  · subst h4; go_enter Try.func36, Try.ntmps36; go_wp2; go_ret; exact ⟨rfl, rfl⟩
  by_cases h8 : n = 8
  · subst h8; go_enter Try.func36, Try.ntmps36; go_wp2; go_ret; exact ⟨rfl, rfl⟩
  have HF : Hid (isW n = false) := by show _ = _; simp [isW, h1, h2, h4, h8]
  have e1 : (n == 1) = false := by simpa using h1
  have e2 : (n == 2) = false := by simpa using h2
  have e4 : (n == 4) = false := by simpa using h4
  have e8 : (n == 8) = false := by simpa using h8
  go_enter Try.func36, Try.ntmps36
  go_wp2
  go_ret
  exact ⟨by rw [HF.out]; rfl, rfl⟩
theorem td_len2 (ms cs ps : List (Nat × Int)) (bs p k : Nat) (q : Int) : (tdL ms cs ps bs p k q).length ≤ k := by
  unfold tdL
  split
  · rw [rdL_len, offP_full]; exact Nat.le_refl _
  · simp
set_option maxHeartbeats 2000000 in
theorem rload13 (vm vc vp : Value) (bs a : Nat) (n : Int) (ms cs ps : List (Nat × Int)) (w : World) (hsl : SlG w vm vc vp ms cs ps) (hf : FitG ms cs ps bs) (hw : Words cs) (ha : a < 4294967296) :
    Calls Try.prog 13 #[.agg #[vm, vc, .int .u64 (bs : Int), vp], .int .u32 (a : Int), .int .i64 n] w fun e w' => e = .returned (.tuple #[.int .u64 (ldV ms cs ps bs a n : Int), .agg #[.int .i64 (ldF ps a n).1, .int .u64 ((ldF ps a n).2 : Int)]]) ∧ Below w.heap.size w w' := by
  obtain ⟨am, pm, rfl, _⟩ := id hsl.1
  obtain ⟨ac, pc, rfl, _⟩ := id hsl.2.1
  obtain ⟨ap, pp, rfl, _⟩ := id hsl.2.2
  obtain ⟨nm, hnm⟩ : ∃ z, z = ms.length := ⟨_, rfl⟩
  obtain ⟨nc, hnc⟩ : ∃ z, z = cs.length := ⟨_, rfl⟩
  obtain ⟨np, hnp⟩ : ∃ z, z = ps.length := ⟨_, rfl⟩
  rw [← hnm, ← hnc, ← hnp] at hsl ⊢
  clear hnm hnc hnp
  obtain ⟨X, hX, hb, hsz, c0, c1, c2, c3, g0, g1⟩ := box42 w (.slice am nm pm) (.slice ac nc pc) (.int .u64 (bs : Int)) (.slice ap np pp) (.int .i64 0) (.int .u64 0)
  have HFIN : Hid (∀ wq x y, Below X.heap.size X wq → (Free wq ⟨w.heap.size + 1, 0, none⟩ ∧ Free wq ⟨w.heap.size + 1, 1, none⟩) ∧ Below w.heap.size w ((wq.setCell ⟨w.heap.size + 1, 0, none⟩ x).setCell ⟨w.heap.size + 1, 1, none⟩ y) ∧ ((wq.setCell ⟨w.heap.size + 1, 0, none⟩ x).setCell ⟨w.heap.size + 1, 1, none⟩ y).cell? ⟨w.heap.size + 1, 0, none⟩ = some x ∧ ((wq.setCell ⟨w.heap.size + 1, 0, none⟩ x).setCell ⟨w.heap.size + 1, 1, none⟩ y).cell? ⟨w.heap.size + 1, 1, none⟩ = some y) := fun wq x y hbq => by
    have F0 : Free wq ⟨w.heap.size + 1, 0, none⟩ := ⟨⟨_, keep_cell hbq g0.cell⟩, keep_frozen hbq (by simp; omega) g0.frozen⟩
    have F1 : Free wq ⟨w.heap.size + 1, 1, none⟩ := ⟨⟨_, keep_cell hbq g1.cell⟩, keep_frozen hbq (by simp; omega) g1.frozen⟩
    obtain ⟨s0, s1⟩ := res2 wq (w.heap.size + 1) x y F0 F1
    exact ⟨⟨F0, F1⟩, ((below_tr hb hbq).setCell (by simp) _).setCell (by simp) _, s0, s1⟩
  have K36 := sized36 n X
  cases hi : isW n with
  | false =>
    have HV : Hid (ldV ms cs ps bs a n = 0 ∧ ldF ps a n = (0, 0)) := by refine ⟨?_, ?_⟩ <;> simp [ldV, ldF, hi]
    rw [hi] at K36
    clear hsl hi hf hw g0 g1
    go_enter Try.func13, Try.ntmps13
    go_wp2_with fail
    refine K36.mono ?_
    rintro e wz ⟨rfl, rfl⟩
    obtain ⟨⟨F0, F1⟩, u0, u1, u2⟩ := HFIN.out wz (.int .i64 0) (.int .u64 0) (Below.refl _ _)
    have q0 := F0.cell
    have q1 := F1.cell
    have q2 := F0.frozen
    have q3 := F1.frozen
    have HU : Hid _ := u0
    have HU1 : Hid _ := u1
    have HU2 : Hid _ := u2
    clear F0 F1 u0 u1 u2
    go_wp2
    have u1 := HU1.out
    have u2 := HU2.out
    refine bodyPost_ret (v := .tuple #[.int .u64 0, .agg #[.int .i64 0, .int .u64 0]]) ?_ rfl ⟨by rw [HV.out.1, HV.out.2]; rfl, HU.out⟩
    rw [results_tmp_cell rfl]; simp [go_sem, u1, u2]
  | true =>
    obtain ⟨k, hk, hk8⟩ : ∃ k : Nat, n = (k : Int) ∧ k ≤ 8 := by
      have h : n = 1 ∨ n = 2 ∨ n = 4 ∨ n = 8 := by simpa [isW, or_assoc] using hi
      refine ⟨n.toNat, ?_, ?_⟩ <;> omega
    subst hk
    have K10 := rbytes11 _ _ _ bs a k ms cs ps X (hsl.keep hb) hf hw ha (by omega)
    have w1 : IntKind.u32.wrap (k : Int) = (k : Int) := by rw [IntKind.wrap_u32]; omega
    obtain ⟨T, hT⟩ : ∃ T : ByteArray, T = ⟨(tdL ms cs ps bs a k 1).toArray⟩ := ⟨_, rfl⟩
    obtain ⟨F, hF⟩ : ∃ F, F = ffN ps a k 1 := ⟨_, rfl⟩
    obtain ⟨nv, hv⟩ : ∃ z, z = W.beS T := ⟨_, rfl⟩
    have hTs : T.size ≤ 1000000 := by
      rw [hT]
      show (tdL ms cs ps bs a k 1).toArray.size ≤ _
      rw [List.size_toArray]
      have := td_len2 ms cs ps bs a k 1
      omega
    have HV : Hid (ldV ms cs ps bs a k = nv ∧ ldF ps a k = F) := by refine ⟨?_, ?_⟩ <;> simp [ldV, ldF, hi, hv, hT, hF]
    have K35 : Hid (∀ w', Calls Try.prog 37 #[.string T] w' fun e w'' => e = .returned (.int .u64 (nv : Int)) ∧ Below w'.heap.size w' w'') := fun w' => by rw [hv]; exact (W.rbe_any T w' hTs).mono (fun e w'' h => ⟨h.1, by rw [h.2]; exact Below.refl _ _⟩)
    rw [← hT, ← hF] at K10
    rw [hi] at K36
    obtain ⟨kd, fa⟩ := F
    simp only at K10
    clear hsl hi hT hF hv hf hw hTs g0 g1
    go_enter Try.func13, Try.ntmps13
    go_wp2_with fail
    refine K36.mono ?_
    rintro e wz ⟨rfl, rfl⟩
    clear K36
    go_wp2_with fail
    refine K10.mono ?_
    rintro e wy ⟨rfl, hby⟩
    clear K10
    obtain ⟨Wa6, W6, hWa6, hW6, ⟨qa6, qb6, qc6, qd6⟩, G6, hb6⟩ := newF wy (.int .i64 kd) (.int .u64 (fa : Int))
    have k0 := G6.c0
    have k1 := G6.c1
    have HB6 : Hid (Below wz.heap.size wz W6) := below_tr hby hb6
    clear hb6 hby G6
    go_wp2
    have HK : Hid (∀ wq, Below W6.drew.heap.size W6.drew wq → wq.cell? ⟨wy.heap.size, 0, none⟩ = some (.int .i64 kd) ∧ wq.cell? ⟨wy.heap.size, 1, none⟩ = some (.int .u64 (fa : Int)) ∧ (∃ c, wq.cell? ⟨w.heap.size + 1, 0, none⟩ = some c) ∧ (∃ c, wq.cell? ⟨w.heap.size + 1, 1, none⟩ = some c) ∧ wq.frozen? ⟨w.heap.size + 1, 0, none⟩ = false ∧ wq.frozen? ⟨w.heap.size + 1, 1, none⟩ = false) := fun wq hbq => by
      have hb' := below_tr (Below.refl W6.heap.size W6).drew hbq
      obtain ⟨⟨F0, F1⟩, _⟩ := HFIN.out wq (.int .i64 kd) (.int .u64 (fa : Int)) (below_tr HB6.out hb')
      exact ⟨keep_cell hb' k0, keep_cell hb' k1, ⟨_, F0.cell⟩, ⟨_, F1.cell⟩, F0.frozen, F1.frozen⟩
    have HEND : Hid (∀ wq, Below W6.drew.heap.size W6.drew wq → _) := fun wq hbq => HFIN.out wq (.int .i64 kd) (.int .u64 (fa : Int)) (below_tr HB6.out (below_tr (Below.refl W6.heap.size W6).drew hbq))
    go_region_with (refine (K35.out _).mono ?_; rintro e wG ⟨rfl, hbG⟩; obtain ⟨k2, k3, ⟨_, q0⟩, ⟨_, q1⟩, q2, q3⟩ := HK.out wG hbG)
    all_goals (
      go_wp2
      obtain ⟨_, u0, u1, u2⟩ := HEND.out wG hbG
      refine bodyPost_ret (v := .tuple #[.int .u64 (nv : Int), .agg #[.int .i64 kd, .int .u64 (fa : Int)]]) ?_ rfl ⟨by rw [HV.out.1, HV.out.2], u0⟩
      rw [results_tmp_cell rfl]; simp [go_sem, u1, u2])
set_option maxHeartbeats 2000000 in
theorem rfetch15 (vm vc vp : Value) (bs a : Nat) (ms cs ps : List (Nat × Int)) (w : World) (hsl : SlG w vm vc vp ms cs ps) (hf : FitG ms cs ps bs) (hw : Words cs) (ha : a < 4294967296) :
    Calls Try.prog 15 #[.agg #[vm, vc, .int .u64 (bs : Int), vp], .int .u32 (a : Int)] w fun e w' => e = .returned (.tuple #[.int .u32 ((W.beS ⟨(tdL ms cs ps bs a 4 4).toArray⟩ % 4294967296 : Nat) : Int), .agg #[.int .i64 (ffN ps a 4 4).1, .int .u64 ((ffN ps a 4 4).2 : Int)]]) ∧ Below w.heap.size w w' := by
  obtain ⟨am, pm, rfl, _⟩ := id hsl.1
  obtain ⟨ac, pc, rfl, _⟩ := id hsl.2.1
  obtain ⟨ap, pp, rfl, _⟩ := id hsl.2.2
  obtain ⟨nm, hnm⟩ : ∃ z, z = ms.length := ⟨_, rfl⟩
  obtain ⟨nc, hnc⟩ : ∃ z, z = cs.length := ⟨_, rfl⟩
  obtain ⟨np, hnp⟩ : ∃ z, z = ps.length := ⟨_, rfl⟩
  rw [← hnm, ← hnc, ← hnp] at hsl ⊢
  clear hnm hnc hnp
  obtain ⟨X, hX, hb, hsz, c0, c1, c2, c3, g0, g1⟩ := box42 w (.slice am nm pm) (.slice ac nc pc) (.int .u64 (bs : Int)) (.slice ap np pp) (.int .i64 0) (.int .u64 0)
  have HFIN : Hid (∀ wq x y, Below X.heap.size X wq → (Free wq ⟨w.heap.size + 1, 0, none⟩ ∧ Free wq ⟨w.heap.size + 1, 1, none⟩) ∧ Below w.heap.size w ((wq.setCell ⟨w.heap.size + 1, 0, none⟩ x).setCell ⟨w.heap.size + 1, 1, none⟩ y) ∧ ((wq.setCell ⟨w.heap.size + 1, 0, none⟩ x).setCell ⟨w.heap.size + 1, 1, none⟩ y).cell? ⟨w.heap.size + 1, 0, none⟩ = some x ∧ ((wq.setCell ⟨w.heap.size + 1, 0, none⟩ x).setCell ⟨w.heap.size + 1, 1, none⟩ y).cell? ⟨w.heap.size + 1, 1, none⟩ = some y) := fun wq x y hbq => by
    have F0 : Free wq ⟨w.heap.size + 1, 0, none⟩ := ⟨⟨_, keep_cell hbq g0.cell⟩, keep_frozen hbq (by simp; omega) g0.frozen⟩
    have F1 : Free wq ⟨w.heap.size + 1, 1, none⟩ := ⟨⟨_, keep_cell hbq g1.cell⟩, keep_frozen hbq (by simp; omega) g1.frozen⟩
    obtain ⟨s0, s1⟩ := res2 wq (w.heap.size + 1) x y F0 F1
    exact ⟨⟨F0, F1⟩, ((below_tr hb hbq).setCell (by simp) _).setCell (by simp) _, s0, s1⟩
  have HT0 : Hid ((ffN ps a 4 4).1 = 0 → tdL ms cs ps bs a 4 4 = byL cs (bs + a) 4) := fun h => tdL_by hf hw ha h
  have HT1 : Hid ((ffN ps a 4 4).1 ≠ 0 → tdL ms cs ps bs a 4 4 = []) := fun h => by show _ = _; rw [tdL, if_neg h]
  have R : Calls Try.prog 32 #[.agg #[.slice am nm pm, .slice ac nc pc, .int .u64 (bs : Int), .slice ap np pp], .int .u32 (a : Int), .int .i64 4, .int .i64 4] X fun e w' => e = .returned (.agg #[.int .i64 (ffN ps a 4 4).1, .int .u64 ((ffN ps a 4 4).2 : Int)]) ∧ Below X.heap.size X w' := rask32 _ _ _ bs a 4 4 ps X ⟨_, _, _, rfl⟩ ⟨_, _, _, rfl⟩ (hsl.keep hb).2.2 (fun x hx => (hf.pg x hx).1) (fun x hx => (hf.pg x hx).2.2.1) ha (by omega) (Or.inr (Or.inr (Or.inr rfl)))
  have KP : Hid (∀ w', Below X.heap.size X w' → Calls Try.prog 33 #[.agg #[.slice am nm pm, .slice ac nc pc, .int .u64 (bs : Int), .slice ap np pp], .int .u32 (a : Int), .int .i64 4] w' fun e w'' => e = .returned (.string ⟨(byL cs (bs + a) 4).toArray⟩) ∧ Below w'.heap.size w' w'') := fun w' hb' => rpeek33 _ _ _ bs a 4 cs w' ⟨_, _, _, rfl⟩ ((hsl.keep hb).keep hb').2.1 ⟨_, _, _, rfl⟩ hw hf.le ha (by omega)
  obtain ⟨F, hF⟩ : ∃ z, z = ffN ps a 4 4 := ⟨_, rfl⟩
  obtain ⟨BY, hBY⟩ : ∃ z : ByteArray, z = ⟨(byL cs (bs + a) 4).toArray⟩ := ⟨_, rfl⟩
  have hBs : BY.size ≤ 1000000 := by
    rw [hBY]
    show (byL cs (bs + a) 4).toArray.size ≤ _
    rw [List.size_toArray, byL_length]
    omega
  obtain ⟨nv, hv⟩ : ∃ z, z = W.beS BY := ⟨_, rfl⟩
  obtain ⟨n32, hn32⟩ : ∃ z, z = nv % 4294967296 := ⟨_, rfl⟩
  obtain ⟨rv, hrv⟩ : ∃ z, z = W.beS ⟨(tdL ms cs ps bs a 4 4).toArray⟩ % 4294967296 := ⟨_, rfl⟩
  have HR0 : Hid ((ffN ps a 4 4).1 = 0 → rv = n32) := fun h => by show _ = _; rw [hrv, HT0.out h, hn32, hv, hBY]
  have HR1 : Hid ((ffN ps a 4 4).1 ≠ 0 → rv = 0) := fun h => by show _ = _; rw [hrv, HT1.out h]; rfl
  have K35 : Hid (∀ w', Calls Try.prog 37 #[.string BY] w' fun e w'' => e = .returned (.int .u64 (nv : Int)) ∧ w'' = w') := fun w' => by rw [hv]; exact W.rbe_any BY w' hBs
  rw [← hF] at HR0 HR1 R ⊢
  rw [← hrv]
  rw [← hBY] at KP
  obtain ⟨kd, fa⟩ := F
  simp only at HR0 HR1 R ⊢
  have wn : IntKind.u32.wrap (nv : Int) = (n32 : Int) := by rw [IntKind.wrap_u32]; omega
  have wn2 : (nv : Int) % 4294967296 = (n32 : Int) := by omega
  clear hF hBY hBs hv hn32 hrv hsl hf hw g0 g1 HT0 HT1
  go_enter Try.func15, Try.ntmps15
  go_wp2_with fail
  refine R.mono ?_
  rintro e wy ⟨rfl, hby⟩
  clear R
  obtain ⟨Wa6, W6, hWa6, hW6, ⟨qa6, qb6, qc6, qd6⟩, G6, hb6⟩ := newF wy (.int .i64 kd) (.int .u64 (fa : Int))
  have hb7 := below_tr hby hb6
  have c0 := keep_cell hb7 c0
  have c1 := keep_cell hb7 c1
  have c2 := keep_cell hb7 c2
  have c3 := keep_cell hb7 c3
  have k0 := G6.c0
  have k1 := G6.c1
  have HB7 : Hid (Below X.heap.size X W6) := hb7
  clear hb6 hby G6 hb7
  by_cases h0 : kd = 0
  · have hb0 : (kd != 0) = false := by simp [h0]
    have HE : Hid (rv = n32) := HR0.out h0
    have HKP : Hid (∀ w', Below W6.drew.heap.size W6.drew w' → Calls Try.prog 33 #[.agg #[.slice am nm pm, .slice ac nc pc, .int .u64 (bs : Int), .slice ap np pp], .int .u32 (a : Int), .int .i64 4] w' fun e w'' => e = .returned (.string BY) ∧ Below w'.heap.size w' w'') := fun w' hb' => KP.out w' (below_tr HB7.out (below_tr (Below.refl W6.heap.size W6).drew hb'))
    have HK : Hid (∀ wq, Below W6.drew.heap.size W6.drew wq → wq.cell? ⟨wy.heap.size, 0, none⟩ = some (.int .i64 kd) ∧ wq.cell? ⟨wy.heap.size, 1, none⟩ = some (.int .u64 (fa : Int)) ∧ (∃ c, wq.cell? ⟨w.heap.size + 1, 0, none⟩ = some c) ∧ (∃ c, wq.cell? ⟨w.heap.size + 1, 1, none⟩ = some c) ∧ wq.frozen? ⟨w.heap.size + 1, 0, none⟩ = false ∧ wq.frozen? ⟨w.heap.size + 1, 1, none⟩ = false) := fun wq hbq => by
      have hb' := below_tr (Below.refl W6.heap.size W6).drew hbq
      obtain ⟨⟨F0, F1⟩, _⟩ := HFIN.out wq (.int .i64 kd) (.int .u64 (fa : Int)) (below_tr HB7.out hb')
      exact ⟨keep_cell hb' k0, keep_cell hb' k1, ⟨_, F0.cell⟩, ⟨_, F1.cell⟩, F0.frozen, F1.frozen⟩
    have HEND : Hid (∀ wq, Below W6.drew.heap.size W6.drew wq → _) := fun wq hbq => HFIN.out wq (.int .i64 kd) (.int .u64 (fa : Int)) (below_tr HB7.out (below_tr (Below.refl W6.heap.size W6).drew hbq))
    clear h0 KP HR0 HR1
    go_wp2
    go_region_with (first | (go_at_call 33; refine (HKP.out _ (Below.refl _ _)).mono ?_; rintro e wG ⟨rfl, hbG⟩; obtain ⟨k2, k3, ⟨_, q0⟩, ⟨_, q1⟩, q2, q3⟩ := HK.out wG hbG) | (go_at_call 37; refine (K35.out _).mono ?_; rintro e wH ⟨rfl, rfl⟩))
    all_goals (
      go_wp2
      obtain ⟨_, u0, u1, u2⟩ := HEND.out _ hbG
      refine bodyPost_ret (v := .tuple #[.int .u32 (n32 : Int), .agg #[.int .i64 kd, .int .u64 (fa : Int)]]) ?_ rfl ⟨by rw [HE.out], u0⟩
      rw [results_tmp_cell rfl]; simp [go_sem, u1, u2])
  · have hb0 : (kd != 0) = true := by simp [h0]
    have HE : Hid (rv = 0) := HR1.out h0
    clear h0 HR0 HR1 KP
    obtain ⟨⟨F0, F1⟩, u0, u1, u2⟩ := HFIN.out W6 (.int .i64 kd) (.int .u64 (fa : Int)) HB7.out
    have q0 := F0.cell
    have q1 := F1.cell
    have q2 := F0.frozen
    have q3 := F1.frozen
    have HU : Hid _ := u0
    have HU1 : Hid _ := u1
    have HU2 : Hid _ := u2
    clear F0 F1 u0 u1 u2
    go_wp2
    go_region
    all_goals (
      go_wp2
      have u1 := HU1.out
      have u2 := HU2.out
      refine bodyPost_ret (v := .tuple #[.int .u32 0, .agg #[.int .i64 kd, .int .u64 (fa : Int)]]) ?_ rfl ⟨by rw [HE.out]; rfl, HU.out.drew⟩
      rw [results_tmp_cell rfl]; simp [go_sem, u1, u2])
end Go.Proofs.Ytdhjmghfiodifaa
