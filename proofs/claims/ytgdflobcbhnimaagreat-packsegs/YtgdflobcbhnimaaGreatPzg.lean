/- What is proved here: a library's file has two segments that are loaded, its table for linking, and who loads it. -/
import Derived.Test.YtgdflobcbhnimaaGreatPze
import Derived.Test.YtgdflobcbhnimaaGreatPzf
import Derived.Test.YtgdflobcbhnimaaGreatSx
namespace Go.Proofs.YtgdflobcbhnimaaGreat
open Go.RowKit 
set_option linter.unusedVariables false
set_option linter.unusedSimpArgs false
set_option maxRecDepth 100000
theorem segs_in {l : Lb} (hf : FitP l) : ∃ o0 a0 s0 r0 o1 a1 s1 r1 o2 a2 s2 r2 o3 a3 s3 r3 : Nat,
    l.lay.head.segs = (if l.interp = [] then [⟨1, o0, a0, s0, r0, 5, 4096⟩, ⟨1, o1, a1, s1, r1, 3, 4096⟩, ⟨2, o2, a2, s2, r2, 3, 4⟩] else [⟨1, o0, a0, s0, r0, 5, 4096⟩, ⟨1, o1, a1, s1, r1, 3, 4096⟩, ⟨2, o2, a2, s2, r2, 3, 4⟩, ⟨3, o3, a3, s3, r3, 1, 1⟩]) ∧
    1 ≤ a0 + s0 ∧ (a0 + s0 - 1) / 4096 < a1 / 4096 ∧ s2 % 8 = 0 ∧ a0 ≤ a2 ∧ a2 + s2 ≤ a0 + s0 ∧ a0 + s0 < 2000000000 ∧ a1 < 2000000000 := by
  refine ⟨_, l.lay.ad 0, l.lay.at_ 7 + l.lay.size 7 - l.lay.at_ 0, _, _, l.lay.ad 8, _, _, _, l.lay.ad 2, l.lay.at_ 2 + l.lay.size 2 - l.lay.at_ 2, _, _, _, _, _, rfl, ?_⟩
  have e2 := lay_at (l := l) 2 (by decide)
  have e7 := lay_at (l := l) 7 (by decide)
  have e8 := lay_at (l := l) 8 (by decide)
  have z2 := lay_sz2 (l := l) 2 (by decide)
  have z7 := lay_sz2 (l := l) 7 (by decide)
  have e0 : l.lay.at_ 0 = 0 := rfl
  have q0 : l.sz 0 = 52 + 32 * (if l.interp = [] then 3 else 4) := part_len (zero_ok hf) 0
  have q2 : l.sz 2 = 4 * (2 * l.needed.length + (if l.soname = [] then 0 else 2) + 16 + (if l.init = 0 then 0 else 2) + 10) := part_len (zero_ok hf) 2
  have h0 := at_mono l.sz 0; have h1 := at_mono l.sz 1; have h2 := at_mono l.sz 2; have h3 := at_mono l.sz 3; have h4 := at_mono l.sz 4
  have h5 := at_mono l.sz 5; have h6 := at_mono l.sz 6; have h7 := at_mono l.sz 7
  simp only [Nat.reduceAdd] at h0 h1 h2 h3 h4 h5 h6 h7
  have b0 := hf.b0
  have b1 := hf.b1
  have m7 := sz_le hf 7
  have m8 := at_le hf 7
  have m9 := at_le hf 8
  have a0 : l.lay.ad 0 = l.base + l.lay.at_ 0 + 0 := rfl
  have a2 : l.lay.ad 2 = l.base + l.lay.at_ 2 + 0 := rfl
  have a8 : l.lay.ad 8 = l.base + l.lay.at_ 8 + 4096 := rfl
  have q2' : l.sz 2 % 8 = 0 := by rw [q2]; split <;> split <;> omega
  have q0' : 1 ≤ l.sz 0 := by rw [q0]; omega
  clear q0 q2
  refine ⟨by omega, by omega, by omega, by omega, by omega, by omega, by omega⟩
set_option maxHeartbeats 4000000 in
theorem segs_walk (l : Lb) (q : Lv) (w : World) (hv : LvIs l q w) (hbd : l.Bd) : Calls Tryz.prog 5 #[l.val q] w fun e w' => e = .returned (.bool true) ∧ Below w.heap.size w w' := by
  obtain ⟨W1, hW1, b1, n1, s1⟩ := box14 l q w
  have H1 : Hid (Below w.heap.size w W1) := b1
  have K8 : Hid (∀ w', Calls Tryz.prog 8 #[] w' fun e w'' => e = .returned (.bool true) ∧ Below w'.heap.size w' w'') := fun w' => awake8 w'
  have K7 : Hid (∀ w', Below w.heap.size w w' → Calls Tryz.prog 7 #[l.val q] w' fun e w'' => ToldIf True w' e w'') := fun w' h => few7 l q w' (hv.keep h)
  have K10 : Hid (∀ w', Below w.heap.size w w' → Calls Tryz.prog 10 #[l.val q] w' fun e w'' => ToldIf (FitP l) w' e w'') := fun w' h => rfit10 l q w' (hv.keep h) hbd
  have K13 : Hid (∀ w', Below w.heap.size w w' → FitP l → Calls Tryz.prog 13 #[l.val q] w' fun e w'' => e = .returned (.string ⟨l.file.toArray⟩) ∧ Below w'.heap.size w' w'') := fun w' h hf => file13 l q w' hf (hv.keep h) hbd (fun w2 h2 => fit9 l q w2 hf ((hv.keep h).keep h2))
  have K15 : Hid (∀ w', FitP l → Calls Tryz.prog 15 #[.string ⟨l.file.toArray⟩] w' fun e w'' => (∃ v, e = .returned (.tuple #[l.lay.head.val v, .int .i64 0]) ∧ E.OwnG w'.heap.size w'' v l.lay.head.segs) ∧ Below w'.heap.size w' w'') := fun w' hf => by
    have h := E.rparse9 l.file (by have h1 := file_len hf; have h2 := sz_le hf 9; have h3 := at_le hf 9; omega) w'
    obtain ⟨p1, p2⟩ := file_parse hf
    rw [p1, p2] at h
    exact h
  have HSG : Hid (FitP l → _) := fun hf => segs_in hf
  obtain ⟨na, nc, hvn, _⟩ := id hv.n
  obtain ⟨ya, yc, hvy, _⟩ := id hv.s
  obtain ⟨ra, rc, hvr, _⟩ := id hv.r
  obtain ⟨la, lc, hvl, _⟩ := id hv.l
  have hN : Hid (∀ w', Below W1.heap.size W1 w' → w'.heap[w.heap.size]? = some (.cells (l.cells q).toArray 28 (0, 0))) := fun w' h => n1.keep h
  unfold Lb.val at K7 K10 K13 ⊢
  unfold Lb.cells at K7 K10 K13 hN hW1 ⊢
  unfold E.Ef.val at K15
  rw [hvn, hvy, hvr, hvl] at K7 K10 K13 hN hW1 ⊢
  obtain ⟨FP, hFP⟩ : ∃ P : Prop, P = FitP l := ⟨_, rfl⟩
  rw [← hFP] at K10 K13 K15 HSG
  obtain ⟨IPL, hIPL⟩ : ∃ z, z = l.interp := ⟨_, rfl⟩
  obtain ⟨GS, hGS⟩ : ∃ z, z = l.lay.head.segs := ⟨_, rfl⟩
  obtain ⟨HE, hHE⟩ : ∃ z, z = l.lay.head.entry := ⟨_, rfl⟩
  obtain ⟨HS, hHS⟩ : ∃ z, z = l.lay.head.shared := ⟨_, rfl⟩
  rw [← hGS, ← hHE, ← hHS] at K15
  rw [← hGS] at HSG
  rw [← hIPL] at HSG
  clear hGS hHE hHS
  obtain ⟨C, hC⟩ : ∃ B : ByteArray, B = ⟨l.code.toArray⟩ := ⟨_, rfl⟩
  simp only [← hC] at K7 K10 K13 hN hW1 ⊢
  obtain ⟨D, hD⟩ : ∃ B : ByteArray, B = ⟨l.data.toArray⟩ := ⟨_, rfl⟩
  simp only [← hD] at K7 K10 K13 hN hW1 ⊢
  obtain ⟨SN, hSN⟩ : ∃ B : ByteArray, B = ⟨l.soname.toArray⟩ := ⟨_, rfl⟩
  simp only [← hSN] at K7 K10 K13 hN hW1 ⊢
  obtain ⟨FB, hFB⟩ : ∃ B : ByteArray, B = ⟨l.file.toArray⟩ := ⟨_, rfl⟩
  simp only [← hFB] at K13 K15
  obtain ⟨IP, hIP⟩ : ∃ B : ByteArray, B = ⟨l.interp.toArray⟩ := ⟨_, rfl⟩
  have tIP : Hid (IP.toList = IPL) := by show _ = _; rw [hIP, bal, hIPL]
  simp only [← hIP] at K7 K10 K13 hN hW1 ⊢
  clear hC hD hSN hIP hFB hvn hvy hvr hvl hv hbd hFP n1 b1 s1 hIPL
  generalize l.shared = SH at K7 K10 K13 hN hW1 ⊢
  generalize l.base = BA at K7 K10 K13 hN hW1 ⊢
  generalize l.entry = EN at K7 K10 K13 hN hW1 ⊢
  generalize l.bss = BS at K7 K10 K13 hN hW1 ⊢
  generalize l.needed.length = NN at K7 K10 K13 hN hW1 ⊢
  generalize l.syms.length = YY at K7 K10 K13 hN hW1 ⊢
  generalize l.rels.length = RR at K7 K10 K13 hN hW1 ⊢
  generalize l.locals.length = LL at K7 K10 K13 hN hW1 ⊢
  generalize l.global = GG at K7 K10 K13 hN hW1 ⊢
  generalize l.init = NI at K7 K10 K13 hN hW1 ⊢
  have HN : Hid (∀ w', Below W1.heap.size W1 w' → w'.heap[w.heap.size]? = some (.cells #[.bool SH, .int .u32 (BA : Int), .int .u32 (EN : Int), .string C, .string D, .int .u32 (BS : Int), .slice na NN nc, .string SN, .string IP, .slice ya YY yc, .slice ra RR rc, .slice la LL lc, .int .i64 GG, .int .u32 (NI : Int)] 28 (0, 0))) := hN.out
  clear hN
  have nn := HN.out W1 (Below.refl _ _)
  have c0 : W1.cell? ⟨w.heap.size, 0, none⟩ = some (.bool SH) := cell14 nn 0 rfl
  have c1 : W1.cell? ⟨w.heap.size, 1, none⟩ = some (.int .u32 (BA : Int)) := cell14 nn 1 rfl
  have c2 : W1.cell? ⟨w.heap.size, 2, none⟩ = some (.int .u32 (EN : Int)) := cell14 nn 2 rfl
  have c3 : W1.cell? ⟨w.heap.size, 3, none⟩ = some (.string C) := cell14 nn 3 rfl
  have c4 : W1.cell? ⟨w.heap.size, 4, none⟩ = some (.string D) := cell14 nn 4 rfl
  have c5 : W1.cell? ⟨w.heap.size, 5, none⟩ = some (.int .u32 (BS : Int)) := cell14 nn 5 rfl
  have c6 : W1.cell? ⟨w.heap.size, 6, none⟩ = some (.slice na NN nc) := cell14 nn 6 rfl
  have c7 : W1.cell? ⟨w.heap.size, 7, none⟩ = some (.string SN) := cell14 nn 7 rfl
  have c8 : W1.cell? ⟨w.heap.size, 8, none⟩ = some (.string IP) := cell14 nn 8 rfl
  have c9 : W1.cell? ⟨w.heap.size, 9, none⟩ = some (.slice ya YY yc) := cell14 nn 9 rfl
  have c10 : W1.cell? ⟨w.heap.size, 10, none⟩ = some (.slice ra RR rc) := cell14 nn 10 rfl
  have c11 : W1.cell? ⟨w.heap.size, 11, none⟩ = some (.slice la LL lc) := cell14 nn 11 rfl
  have c12 : W1.cell? ⟨w.heap.size, 12, none⟩ = some (.int .i64 GG) := cell14 nn 12 rfl
  have c13 : W1.cell? ⟨w.heap.size, 13, none⟩ = some (.int .u32 (NI : Int)) := cell14 nn 13 rfl
  clear nn
  go_enter Tryz.func5, Tryz.ntmps5
  go_wp2_with fail
  refine (K7.out W1 H1.out).mono ?_
  rintro e w2 ⟨f7, rfl, hb2, _⟩
  have H2 : Hid (Below W1.heap.size W1 w2) := hb2
  have HW2 : Hid (Below w.heap.size w w2) := below_tr H1.out hb2
  clear c0 c1 c2 c3 c4 c5 c6 c7 c8 c9 c10 c11 c12 c13
  clear hb2 hW1
  have nn := HN.out w2 H2.out
  have c0 : w2.cell? ⟨w.heap.size, 0, none⟩ = some (.bool SH) := cell14 nn 0 rfl
  have c1 : w2.cell? ⟨w.heap.size, 1, none⟩ = some (.int .u32 (BA : Int)) := cell14 nn 1 rfl
  have c2 : w2.cell? ⟨w.heap.size, 2, none⟩ = some (.int .u32 (EN : Int)) := cell14 nn 2 rfl
  have c3 : w2.cell? ⟨w.heap.size, 3, none⟩ = some (.string C) := cell14 nn 3 rfl
  have c4 : w2.cell? ⟨w.heap.size, 4, none⟩ = some (.string D) := cell14 nn 4 rfl
  have c5 : w2.cell? ⟨w.heap.size, 5, none⟩ = some (.int .u32 (BS : Int)) := cell14 nn 5 rfl
  have c6 : w2.cell? ⟨w.heap.size, 6, none⟩ = some (.slice na NN nc) := cell14 nn 6 rfl
  have c7 : w2.cell? ⟨w.heap.size, 7, none⟩ = some (.string SN) := cell14 nn 7 rfl
  have c8 : w2.cell? ⟨w.heap.size, 8, none⟩ = some (.string IP) := cell14 nn 8 rfl
  have c9 : w2.cell? ⟨w.heap.size, 9, none⟩ = some (.slice ya YY yc) := cell14 nn 9 rfl
  have c10 : w2.cell? ⟨w.heap.size, 10, none⟩ = some (.slice ra RR rc) := cell14 nn 10 rfl
  have c11 : w2.cell? ⟨w.heap.size, 11, none⟩ = some (.slice la LL lc) := cell14 nn 11 rfl
  have c12 : w2.cell? ⟨w.heap.size, 12, none⟩ = some (.int .i64 GG) := cell14 nn 12 rfl
  have c13 : w2.cell? ⟨w.heap.size, 13, none⟩ = some (.int .u32 (NI : Int)) := cell14 nn 13 rfl
  clear nn
  cases f7 with
  | false =>
    go_wp2_with fail
    refine (K8.out w2).mono ?_
    rintro e w3 ⟨rfl, hb3⟩
    go_wp2
    go_ret
    exact ⟨rfl, below_tr HW2.out hb3⟩
  | true =>
    go_wp2_with fail
    refine (K10.out w2 HW2.out).mono ?_
    rintro e w3 ⟨f10, rfl, hb3, hfit⟩
    have H3 : Hid (Below W1.heap.size W1 w3) := below_tr H2.out hb3
    have HW3 : Hid (Below w.heap.size w w3) := below_tr HW2.out hb3
    clear c0 c1 c2 c3 c4 c5 c6 c7 c8 c9 c10 c11 c12 c13
    clear hb3
    have nn := HN.out w3 H3.out
    have c0 : w3.cell? ⟨w.heap.size, 0, none⟩ = some (.bool SH) := cell14 nn 0 rfl
    have c1 : w3.cell? ⟨w.heap.size, 1, none⟩ = some (.int .u32 (BA : Int)) := cell14 nn 1 rfl
    have c2 : w3.cell? ⟨w.heap.size, 2, none⟩ = some (.int .u32 (EN : Int)) := cell14 nn 2 rfl
    have c3 : w3.cell? ⟨w.heap.size, 3, none⟩ = some (.string C) := cell14 nn 3 rfl
    have c4 : w3.cell? ⟨w.heap.size, 4, none⟩ = some (.string D) := cell14 nn 4 rfl
    have c5 : w3.cell? ⟨w.heap.size, 5, none⟩ = some (.int .u32 (BS : Int)) := cell14 nn 5 rfl
    have c6 : w3.cell? ⟨w.heap.size, 6, none⟩ = some (.slice na NN nc) := cell14 nn 6 rfl
    have c7 : w3.cell? ⟨w.heap.size, 7, none⟩ = some (.string SN) := cell14 nn 7 rfl
    have c8 : w3.cell? ⟨w.heap.size, 8, none⟩ = some (.string IP) := cell14 nn 8 rfl
    have c9 : w3.cell? ⟨w.heap.size, 9, none⟩ = some (.slice ya YY yc) := cell14 nn 9 rfl
    have c10 : w3.cell? ⟨w.heap.size, 10, none⟩ = some (.slice ra RR rc) := cell14 nn 10 rfl
    have c11 : w3.cell? ⟨w.heap.size, 11, none⟩ = some (.slice la LL lc) := cell14 nn 11 rfl
    have c12 : w3.cell? ⟨w.heap.size, 12, none⟩ = some (.int .i64 GG) := cell14 nn 12 rfl
    have c13 : w3.cell? ⟨w.heap.size, 13, none⟩ = some (.int .u32 (NI : Int)) := cell14 nn 13 rfl
    clear nn
    cases f10 with
    | false =>
      go_wp2_with fail
      refine (K8.out w3).mono ?_
      rintro e w4 ⟨rfl, hb4⟩
      go_wp2
      go_ret
      exact ⟨rfl, below_tr HW3.out hb4⟩
    | true =>
      have hf : FP := hfit rfl
      go_wp2_with fail
      refine (K13.out w3 HW3.out hf).mono ?_
      rintro e w4 ⟨rfl, hb4⟩
      have H4 : Hid (Below W1.heap.size W1 w4) := below_tr H3.out hb4
      have HW4 : Hid (Below w.heap.size w w4) := below_tr HW3.out hb4
      clear c0 c1 c2 c3 c4 c5 c6 c7 c8 c9 c10 c11 c12 c13
      clear hb4
      go_wp2_with fail
      refine (K15.out w4 hf).mono ?_
      rintro e w7 ⟨⟨v, rfl, hown⟩, hb7⟩
      obtain ⟨o0, a0, s0, r0, o1, a1, s1, r1, o2, a2, s2, r2, o3, a3, s3, r3, hgs, n1, n2, n3, n4, n5, n6, n7⟩ := HSG.out hf
      obtain ⟨A0S, hA0S⟩ : ∃ z, z = a0 + s0 := ⟨_, rfl⟩
      obtain ⟨A0T, hA0T⟩ : ∃ z, z = a0 + s0 - 1 := ⟨_, rfl⟩
      obtain ⟨A0Q, hA0Q⟩ : ∃ z, z = A0T / 4096 := ⟨_, rfl⟩
      obtain ⟨A1Q, hA1Q⟩ : ∃ z, z = a1 / 4096 := ⟨_, rfl⟩
      obtain ⟨A2S, hA2S⟩ : ∃ z, z = a2 + s2 := ⟨_, rfl⟩
      have HJ : Hid (IntKind.u32.wrap ((a0 : Int) + (s0 : Int)) = (A0S : Int) ∧ IntKind.u32.wrap ((A0S : Int) - 1) = (A0T : Int) ∧ IntKind.u32.wrap ((A0T : Int).tdiv 4096) = (A0Q : Int) ∧ IntKind.u32.wrap ((a1 : Int).tdiv 4096) = (A1Q : Int) ∧ decide ((A0Q : Int) < (A1Q : Int)) = true ∧ (s2 : Int).tmod 8 = ((0 : Nat) : Int) ∧ decide ((a0 : Int) ≤ (a2 : Int)) = true ∧ IntKind.u32.wrap ((a2 : Int) + (s2 : Int)) = (A2S : Int) ∧ decide ((A2S : Int) ≤ (A0S : Int)) = true) := 
        ⟨Sx.w32 (by omega) (by omega), Sx.w32 (by omega) (by omega), Sx.w32 (by rw [hA0Q]; rfl) (by omega), Sx.w32 (by rw [hA1Q]; rfl) (by omega), decide_eq_true (by omega), by have h : (s2 : Int).tmod 8 = ((s2 % 8 : Nat) : Int) := rfl; rw [h, n3], decide_eq_true (by omega), Sx.w32 (by omega) (by omega), decide_eq_true (by omega)⟩
      have H7 : Hid (Below W1.heap.size W1 w7) := below_tr H4.out hb7
      have HW7 : Hid (Below w.heap.size w w7) := below_tr H1.out H7.out
      clear n1 n2 n3 n4 n5 n6 n7 hA0S hA0T hA0Q hA1Q hA2S hb7 HSG hfit hf
      by_cases hip : IPL = []
      · rw [if_pos hip] at hgs
        subst hgs
        obtain ⟨ao, vc, hvv, _, _, _, h4⟩ := hown.sl
        simp at hvv
        obtain ⟨vb, vo, rfl, m0⟩ := h4 0 (by simp)
        obtain ⟨_, _, e1, m1⟩ := h4 1 (by simp)
        obtain ⟨_, _, e2, m2⟩ := h4 2 (by simp)
        injection e1 with e1
        injection e1 with e1a e1b
        subst e1a e1b
        injection e2 with e2
        injection e2 with e2a e2b
        subst e2a e2b
        subst hvv
        clear h4 hown
        obtain ⟨W8, hW8⟩ : ∃ z, w7.alloc (.cells #[.bool HS, .int .u32 (HE : Int), .slice (some ⟨vb, vo, none⟩) 3 vc] 37) = z := ⟨_, rfl⟩
        have b8 : Below w7.heap.size w7 W8 := by rw [← hW8]; exact (Below.refl _ _).alloc (Nat.le_refl _) _
        have s2_ : W8.cell? ⟨w7.heap.size, 2, none⟩ = some (.slice (some ⟨vb, vo, none⟩) 3 vc) := by rw [← hW8]; exact cell_newA _ _ _ _ _ _ rfl rfl
        have H8 : Hid (Below W1.heap.size W1 W8) := below_tr H7.out b8
        have HW8 : Hid (Below w.heap.size w W8) := below_tr H1.out H8.out
        have G0 : Hid (E.At7 W8 vb (vo + 0 * 7) ⟨1, o0, a0, s0, r0, 5, 4096⟩) := m0.keep b8
        have G1 : Hid (E.At7 W8 vb (vo + 1 * 7) ⟨1, o1, a1, s1, r1, 3, 4096⟩) := m1.keep b8
        have G2 : Hid (E.At7 W8 vb (vo + 2 * 7) ⟨2, o2, a2, s2, r2, 3, 4⟩) := m2.keep b8
        clear b8 m0 m1 m2
        have nn := HN.out W8 H8.out
        have c0 : W8.cell? ⟨w.heap.size, 0, none⟩ = some (.bool SH) := cell14 nn 0 rfl
        have c1 : W8.cell? ⟨w.heap.size, 1, none⟩ = some (.int .u32 (BA : Int)) := cell14 nn 1 rfl
        have c2 : W8.cell? ⟨w.heap.size, 2, none⟩ = some (.int .u32 (EN : Int)) := cell14 nn 2 rfl
        have c3 : W8.cell? ⟨w.heap.size, 3, none⟩ = some (.string C) := cell14 nn 3 rfl
        have c4 : W8.cell? ⟨w.heap.size, 4, none⟩ = some (.string D) := cell14 nn 4 rfl
        have c5 : W8.cell? ⟨w.heap.size, 5, none⟩ = some (.int .u32 (BS : Int)) := cell14 nn 5 rfl
        have c6 : W8.cell? ⟨w.heap.size, 6, none⟩ = some (.slice na NN nc) := cell14 nn 6 rfl
        have c7 : W8.cell? ⟨w.heap.size, 7, none⟩ = some (.string SN) := cell14 nn 7 rfl
        have c8 : W8.cell? ⟨w.heap.size, 8, none⟩ = some (.string IP) := cell14 nn 8 rfl
        have c9 : W8.cell? ⟨w.heap.size, 9, none⟩ = some (.slice ya YY yc) := cell14 nn 9 rfl
        have c10 : W8.cell? ⟨w.heap.size, 10, none⟩ = some (.slice ra RR rc) := cell14 nn 10 rfl
        have c11 : W8.cell? ⟨w.heap.size, 11, none⟩ = some (.slice la LL lc) := cell14 nn 11 rfl
        have c12 : W8.cell? ⟨w.heap.size, 12, none⟩ = some (.int .i64 GG) := cell14 nn 12 rfl
        have c13 : W8.cell? ⟨w.heap.size, 13, none⟩ = some (.int .u32 (NI : Int)) := cell14 nn 13 rfl
        clear nn
        go_upto_region 5 with fail
        try rw [hW8]
        clear hW8
        have HQ : Hid ((!(IP.toList == (⟨#[]⟩ : ByteArray).toList)) = false) := by show _ = _; rw [tIP.out, show (⟨#[]⟩ : ByteArray).toList = [] from bal []]; rw [hip]; rfl
        refine wp_region_list ?_
        refine Sx.take (v := .pointer (some ⟨w.heap.size, 8, none⟩)) (by kernel_rfl) ?_ ?_
        · go_simp
        simp only [Act.put, List.getElem_toArray, List.getElem_cons_zero, List.getElem_cons_succ, List.setIfInBounds_toArray, List.set_cons_zero, List.set_cons_succ]
        refine Sx.take (v := .string IP) (by kernel_rfl) ?_ ?_
        · have p_ := c8; go_simp
        simp only [Act.put, List.getElem_toArray, List.getElem_cons_zero, List.getElem_cons_succ, List.setIfInBounds_toArray, List.set_cons_zero, List.set_cons_succ]
        refine Sx.take (v := .bool false) (by kernel_rfl) ?_ ?_
        · exact Sx.neS rfl rfl rfl HQ.out
        simp only [Act.put, List.getElem_toArray, List.getElem_cons_zero, List.getElem_cons_succ, List.setIfInBounds_toArray, List.set_cons_zero, List.set_cons_succ]
        refine wpList_nil ?_
        go_upto_region 7 with fail
        refine wp_region_list ?_
        refine Sx.take (v := .int .i64 0) (by kernel_rfl) ?_ ?_
        · exact Sx.mv rfl rfl
        simp only [Act.put, List.getElem_toArray, List.getElem_cons_zero, List.getElem_cons_succ, List.setIfInBounds_toArray, List.set_cons_zero, List.set_cons_succ]
        refine Sx.take (v := .bool false) (by kernel_rfl) ?_ ?_
        · exact Sx.neI rfl rfl rfl rfl
        simp only [Act.put, List.getElem_toArray, List.getElem_cons_zero, List.getElem_cons_succ, List.setIfInBounds_toArray, List.set_cons_zero, List.set_cons_succ]
        refine Sx.take (v := .bool false) (by kernel_rfl) ?_ ?_
        · exact Sx.mv rfl rfl
        simp only [Act.put, List.getElem_toArray, List.getElem_cons_zero, List.getElem_cons_succ, List.setIfInBounds_toArray, List.set_cons_zero, List.set_cons_succ]
        refine Sx.take (v := .pointer (some ⟨w7.heap.size, 2, none⟩)) (by kernel_rfl) ?_ ?_
        · go_simp
        simp only [Act.put, List.getElem_toArray, List.getElem_cons_zero, List.getElem_cons_succ, List.setIfInBounds_toArray, List.set_cons_zero, List.set_cons_succ]
        refine Sx.take (v := .slice (some ⟨vb, vo, none⟩) 3 vc) (by kernel_rfl) ?_ ?_
        · have p_ := s2_; go_simp
        simp only [Act.put, List.getElem_toArray, List.getElem_cons_zero, List.getElem_cons_succ, List.setIfInBounds_toArray, List.set_cons_zero, List.set_cons_succ]
        refine Sx.take (v := .int .i64 3) (by kernel_rfl) ?_ ?_
        · exact Sx.lenV (e := 41) (by kernel_rfl) rfl rfl
        simp only [Act.put, List.getElem_toArray, List.getElem_cons_zero, List.getElem_cons_succ, List.setIfInBounds_toArray, List.set_cons_zero, List.set_cons_succ]
        refine Sx.take (v := .int .i64 3) (by kernel_rfl) ?_ ?_
        · exact Sx.mv rfl rfl
        simp only [Act.put, List.getElem_toArray, List.getElem_cons_zero, List.getElem_cons_succ, List.setIfInBounds_toArray, List.set_cons_zero, List.set_cons_succ]
        refine Sx.take (v := .bool false) (by kernel_rfl) ?_ ?_
        · exact Sx.neI rfl rfl rfl rfl
        simp only [Act.put, List.getElem_toArray, List.getElem_cons_zero, List.getElem_cons_succ, List.setIfInBounds_toArray, List.set_cons_zero, List.set_cons_succ]
        refine Sx.take (v := .bool false) (by kernel_rfl) ?_ ?_
        · exact Sx.pickF rfl rfl rfl
        simp only [Act.put, List.getElem_toArray, List.getElem_cons_zero, List.getElem_cons_succ, List.setIfInBounds_toArray, List.set_cons_zero, List.set_cons_succ]
        refine wpList_nil ?_
        go_upto_region 9 with fail
        refine wp_region_held_drew (S := fun w' => Below W8.heap.size W8 w') (by kernel_rfl) (Below.refl _ _).drew (fun hS => ?_)
        refine wpAnyH_take (i := 0) (v := .pointer (some ⟨w7.heap.size, 2, none⟩)) rfl (by kernel_rfl) (by kernel_rfl) (by kernel_rfl) (fun _ _ _ h => h) (Or.inl ⟨by kernel_rfl, fun wq hSw => ?_⟩) hS ?_
        · go_simp
        simp only [Act.put, List.getElem_toArray, List.getElem_cons_zero, List.getElem_cons_succ, List.setIfInBounds_toArray, List.set_cons_zero, List.set_cons_succ]
        refine wpAnyH_take (i := 1) (v := .slice (some ⟨vb, vo, none⟩) 3 vc) rfl (by kernel_rfl) (by kernel_rfl) (by kernel_rfl) (fun _ _ _ h => h) (Or.inl ⟨by kernel_rfl, fun wq hSw => ?_⟩) hS ?_
        · have p_ := keep_cell hSw s2_; go_simp
        simp only [Act.put, List.getElem_toArray, List.getElem_cons_zero, List.getElem_cons_succ, List.setIfInBounds_toArray, List.set_cons_zero, List.set_cons_succ]
        refine wpAnyH_take (i := 2) (v := .pointer (some ⟨vb, vo, none⟩)) rfl (by kernel_rfl) (by kernel_rfl) (by kernel_rfl) (fun _ _ _ h => h) (Or.inl ⟨by kernel_rfl, fun wq hSw => ?_⟩) hS ?_
        · go_simp
        simp only [Act.put, List.getElem_toArray, List.getElem_cons_zero, List.getElem_cons_succ, List.setIfInBounds_toArray, List.set_cons_zero, List.set_cons_succ]
        refine wpAnyH_take (i := 3) (v := .agg #[.int .i64 1, .int .u32 (o0 : Int), .int .u32 (a0 : Int), .int .u32 (s0 : Int), .int .u32 (r0 : Int), .int .i64 5, .int .u32 4096]) rfl (by kernel_rfl) (by kernel_rfl) (by kernel_rfl) (fun _ _ _ h => h) (Or.inl ⟨by kernel_rfl, fun wq hSw => ?_⟩) hS ?_
        · obtain ⟨t0, t1, t2, t3, t4, t5, t6⟩ := G0.out.keep hSw; clear H7 HW7 H8 HW8; simp only [Nat.zero_mul, Nat.one_mul, Nat.reduceMul, Nat.add_zero, Nat.add_assoc, Nat.reduceAdd] at t0 t1 t2 t3 t4 t5 t6; go_simp
        simp only [Act.put, List.getElem_toArray, List.getElem_cons_zero, List.getElem_cons_succ, List.setIfInBounds_toArray, List.set_cons_zero, List.set_cons_succ]
        refine wpAnyH_take (i := 4) (v := .pointer (some ⟨w7.heap.size, 2, none⟩)) rfl (by kernel_rfl) (by kernel_rfl) (by kernel_rfl) (fun _ _ _ h => h) (Or.inl ⟨by kernel_rfl, fun wq hSw => ?_⟩) hS ?_
        · go_simp
        simp only [Act.put, List.getElem_toArray, List.getElem_cons_zero, List.getElem_cons_succ, List.setIfInBounds_toArray, List.set_cons_zero, List.set_cons_succ]
        refine wpAnyH_take (i := 5) (v := .slice (some ⟨vb, vo, none⟩) 3 vc) rfl (by kernel_rfl) (by kernel_rfl) (by kernel_rfl) (fun _ _ _ h => h) (Or.inl ⟨by kernel_rfl, fun wq hSw => ?_⟩) hS ?_
        · have p_ := keep_cell hSw s2_; go_simp
        simp only [Act.put, List.getElem_toArray, List.getElem_cons_zero, List.getElem_cons_succ, List.setIfInBounds_toArray, List.set_cons_zero, List.set_cons_succ]
        refine wpAnyH_take (i := 6) (v := .pointer (some ⟨vb, vo + 7, none⟩)) rfl (by kernel_rfl) (by kernel_rfl) (by kernel_rfl) (fun _ _ _ h => h) (Or.inl ⟨by kernel_rfl, fun wq hSw => ?_⟩) hS ?_
        · go_simp
        simp only [Act.put, List.getElem_toArray, List.getElem_cons_zero, List.getElem_cons_succ, List.setIfInBounds_toArray, List.set_cons_zero, List.set_cons_succ]
        refine wpAnyH_take (i := 7) (v := .agg #[.int .i64 1, .int .u32 (o1 : Int), .int .u32 (a1 : Int), .int .u32 (s1 : Int), .int .u32 (r1 : Int), .int .i64 3, .int .u32 4096]) rfl (by kernel_rfl) (by kernel_rfl) (by kernel_rfl) (fun _ _ _ h => h) (Or.inl ⟨by kernel_rfl, fun wq hSw => ?_⟩) hS ?_
        · obtain ⟨t0, t1, t2, t3, t4, t5, t6⟩ := G1.out.keep hSw; clear H7 HW7 H8 HW8; simp only [Nat.zero_mul, Nat.one_mul, Nat.reduceMul, Nat.add_zero, Nat.add_assoc, Nat.reduceAdd] at t0 t1 t2 t3 t4 t5 t6; go_simp
        simp only [Act.put, List.getElem_toArray, List.getElem_cons_zero, List.getElem_cons_succ, List.setIfInBounds_toArray, List.set_cons_zero, List.set_cons_succ]
        refine wpAnyH_take (i := 8) (v := .pointer (some ⟨w7.heap.size, 2, none⟩)) rfl (by kernel_rfl) (by kernel_rfl) (by kernel_rfl) (fun _ _ _ h => h) (Or.inl ⟨by kernel_rfl, fun wq hSw => ?_⟩) hS ?_
        · go_simp
        simp only [Act.put, List.getElem_toArray, List.getElem_cons_zero, List.getElem_cons_succ, List.setIfInBounds_toArray, List.set_cons_zero, List.set_cons_succ]
        refine wpAnyH_take (i := 9) (v := .slice (some ⟨vb, vo, none⟩) 3 vc) rfl (by kernel_rfl) (by kernel_rfl) (by kernel_rfl) (fun _ _ _ h => h) (Or.inl ⟨by kernel_rfl, fun wq hSw => ?_⟩) hS ?_
        · have p_ := keep_cell hSw s2_; go_simp
        simp only [Act.put, List.getElem_toArray, List.getElem_cons_zero, List.getElem_cons_succ, List.setIfInBounds_toArray, List.set_cons_zero, List.set_cons_succ]
        refine wpAnyH_take (i := 10) (v := .pointer (some ⟨vb, vo + 14, none⟩)) rfl (by kernel_rfl) (by kernel_rfl) (by kernel_rfl) (fun _ _ _ h => h) (Or.inl ⟨by kernel_rfl, fun wq hSw => ?_⟩) hS ?_
        · go_simp
        simp only [Act.put, List.getElem_toArray, List.getElem_cons_zero, List.getElem_cons_succ, List.setIfInBounds_toArray, List.set_cons_zero, List.set_cons_succ]
        refine wpAnyH_take (i := 11) (v := .agg #[.int .i64 2, .int .u32 (o2 : Int), .int .u32 (a2 : Int), .int .u32 (s2 : Int), .int .u32 (r2 : Int), .int .i64 3, .int .u32 4]) rfl (by kernel_rfl) (by kernel_rfl) (by kernel_rfl) (fun _ _ _ h => h) (Or.inl ⟨by kernel_rfl, fun wq hSw => ?_⟩) hS ?_
        · obtain ⟨t0, t1, t2, t3, t4, t5, t6⟩ := G2.out.keep hSw; clear H7 HW7 H8 HW8; simp only [Nat.zero_mul, Nat.one_mul, Nat.reduceMul, Nat.add_zero, Nat.add_assoc, Nat.reduceAdd] at t0 t1 t2 t3 t4 t5 t6; go_simp
        simp only [Act.put, List.getElem_toArray, List.getElem_cons_zero, List.getElem_cons_succ, List.setIfInBounds_toArray, List.set_cons_zero, List.set_cons_succ]
        refine wpAnyH_new3 (i := 12) (j := 13) (k := 14) (di := 6) (dj := 7) (dk := 8) rfl (by kernel_rfl) (by kernel_rfl) (by kernel_rfl) rfl (by kernel_rfl) (by kernel_rfl) (by kernel_rfl) rfl (by kernel_rfl) (by kernel_rfl) (by kernel_rfl) (by decide) (by decide) (by decide) (by decide) (by decide) (by decide) (by kernel_rfl) (by kernel_rfl) (by kernel_rfl) (by kernel_rfl) (by kernel_rfl) (by kernel_rfl) (by kernel_rfl) (fun w' h => below_tr hS h) (fun b6 b7 b8 w9 hb9 ne67 ne68 ne78 g6 g7 g8 i6 i7 i8 => ?_)
        simp only [Act.put, List.getElem_toArray, List.getElem_cons_zero, List.getElem_cons_succ, List.setIfInBounds_toArray, List.set_cons_zero, List.set_cons_succ]
        have hS := below_tr hS hb9
        have HSZ : Hid (W8.heap.size ≤ W8.heap.size) := Nat.le_refl _
        have hge : W8.heap.size ≤ b6 ∧ W8.heap.size ≤ b7 ∧ W8.heap.size ≤ b8 := ⟨Nat.le_trans HSZ.out g6, Nat.le_trans HSZ.out g7, Nat.le_trans HSZ.out g8⟩
        obtain ⟨WA, hWA⟩ : ∃ z, z = w9.setRow b6 #[.int .i64 1, .int .u32 (o0 : Int), .int .u32 (a0 : Int), .int .u32 (s0 : Int), .int .u32 (r0 : Int), .int .i64 5, .int .u32 4096] := ⟨_, rfl⟩
        have hSA : Below W8.heap.size W8 WA := by rw [hWA]; exact hS.grown (grown_setRow _ _ _) hS.size (fun k e => by injection e with e; omega)
        have j6 : WA.heap[b6]? = some (.cells #[.int .i64 1, .int .u32 (o0 : Int), .int .u32 (a0 : Int), .int .u32 (s0 : Int), .int .u32 (r0 : Int), .int .i64 5, .int .u32 4096] 41 (0, 0)) := by rw [hWA]; exact setRow_heap _ _ _ _ _ _ i6
        have j7 : WA.heap[b7]? = some (.cells Z41 41 (0, 0)) := by rw [hWA]; exact setRow_far i7 ne67
        have j8 : WA.heap[b8]? = some (.cells Z41 41 (0, 0)) := by rw [hWA]; exact setRow_far i8 ne68
        refine wpAnyH_store (i := 15) (by kernel_rfl) rfl (by kernel_rfl) (by kernel_rfl) 41 (.tmp 6) (.tmp 39) (by kernel_rfl) b6 #[.int .i64 1, .int .u32 (o0 : Int), .int .u32 (a0 : Int), .int .u32 (s0 : Int), .int .u32 (r0 : Int), .int .i64 5, .int .u32 4096] (by kernel_rfl) (by kernel_rfl) 41 Z41 i6 (by kernel_rfl) (by kernel_rfl) (by kernel_rfl) (by rw [← hWA]; exact hSA) ?_
        rw [← hWA]
        obtain ⟨WB, hWB⟩ : ∃ z, z = WA.setRow b7 #[.int .i64 1, .int .u32 (o1 : Int), .int .u32 (a1 : Int), .int .u32 (s1 : Int), .int .u32 (r1 : Int), .int .i64 3, .int .u32 4096] := ⟨_, rfl⟩
        have hSB : Below W8.heap.size W8 WB := by rw [hWB]; exact hSA.grown (grown_setRow _ _ _) hSA.size (fun k e => by injection e with e; omega)
        have k6 : WB.heap[b6]? = some (.cells #[.int .i64 1, .int .u32 (o0 : Int), .int .u32 (a0 : Int), .int .u32 (s0 : Int), .int .u32 (r0 : Int), .int .i64 5, .int .u32 4096] 41 (0, 0)) := by rw [hWB]; exact setRow_far j6 (Ne.symm ne67)
        have k7 : WB.heap[b7]? = some (.cells #[.int .i64 1, .int .u32 (o1 : Int), .int .u32 (a1 : Int), .int .u32 (s1 : Int), .int .u32 (r1 : Int), .int .i64 3, .int .u32 4096] 41 (0, 0)) := by rw [hWB]; exact setRow_heap _ _ _ _ _ _ j7
        have k8 : WB.heap[b8]? = some (.cells Z41 41 (0, 0)) := by rw [hWB]; exact setRow_far j8 ne78
        refine wpAnyH_store (i := 16) (by kernel_rfl) rfl (by kernel_rfl) (by kernel_rfl) 41 (.tmp 7) (.tmp 43) (by kernel_rfl) b7 #[.int .i64 1, .int .u32 (o1 : Int), .int .u32 (a1 : Int), .int .u32 (s1 : Int), .int .u32 (r1 : Int), .int .i64 3, .int .u32 4096] (by kernel_rfl) (by kernel_rfl) 41 Z41 j7 (by kernel_rfl) (by kernel_rfl) (by kernel_rfl) (by rw [← hWB]; exact hSB) ?_
        rw [← hWB]
        obtain ⟨WC, hWC⟩ : ∃ z, z = WB.setRow b8 #[.int .i64 2, .int .u32 (o2 : Int), .int .u32 (a2 : Int), .int .u32 (s2 : Int), .int .u32 (r2 : Int), .int .i64 3, .int .u32 4] := ⟨_, rfl⟩
        have hSC : Below W8.heap.size W8 WC := by rw [hWC]; exact hSB.grown (grown_setRow _ _ _) hSB.size (fun k e => by injection e with e; omega)
        have l6 : WC.heap[b6]? = some (.cells #[.int .i64 1, .int .u32 (o0 : Int), .int .u32 (a0 : Int), .int .u32 (s0 : Int), .int .u32 (r0 : Int), .int .i64 5, .int .u32 4096] 41 (0, 0)) := by rw [hWC]; exact setRow_far k6 (Ne.symm ne68)
        have l7 : WC.heap[b7]? = some (.cells #[.int .i64 1, .int .u32 (o1 : Int), .int .u32 (a1 : Int), .int .u32 (s1 : Int), .int .u32 (r1 : Int), .int .i64 3, .int .u32 4096] 41 (0, 0)) := by rw [hWC]; exact setRow_far k7 (Ne.symm ne78)
        have l8 : WC.heap[b8]? = some (.cells #[.int .i64 2, .int .u32 (o2 : Int), .int .u32 (a2 : Int), .int .u32 (s2 : Int), .int .u32 (r2 : Int), .int .i64 3, .int .u32 4] 41 (0, 0)) := by rw [hWC]; exact setRow_heap _ _ _ _ _ _ k8
        refine wpAnyH_store (i := 17) (by kernel_rfl) rfl (by kernel_rfl) (by kernel_rfl) 41 (.tmp 8) (.tmp 47) (by kernel_rfl) b8 #[.int .i64 2, .int .u32 (o2 : Int), .int .u32 (a2 : Int), .int .u32 (s2 : Int), .int .u32 (r2 : Int), .int .i64 3, .int .u32 4] (by kernel_rfl) (by kernel_rfl) 41 Z41 k8 (by kernel_rfl) (by kernel_rfl) (by kernel_rfl) (by rw [← hWC]; exact hSC) ?_
        rw [← hWC]
        refine wpAnyH_done (by kernel_rfl) ?_ _
        have HWC : Hid (Below w.heap.size w WC) := below_tr HW8.out hSC
        have G3' := fun h : E.At7 W8 vb (vo + 3 * 7) ⟨3, o3, a3, s3, r3, 1, 1⟩ => h.keep hSC
        have p2 := keep_cell hSC s2_
        obtain ⟨x0, x1, x2, x3, x4, x5, x6⟩ := seven l6
        obtain ⟨y0, y1, y2, y3, y4, y5, y6⟩ := seven l7
        obtain ⟨z0, z1, z2, z3, z4, z5, z6⟩ := seven l8
        clear hS hSA hSB hSC hWA hWB hWC i6 i7 i8 j6 j7 j8 k6 k7 k8 l6 l7 l8 hge hb9 g6 g7 g8
        clear G3'
        go_upto_region 10 with fail
        refine wp_region_list ?_
        refine Sx.take (v := .pointer (some ⟨b6, 0, none⟩)) (by kernel_rfl) ?_ ?_
        · go_simp
        simp only [Act.put, List.getElem_toArray, List.getElem_cons_zero, List.getElem_cons_succ, List.setIfInBounds_toArray, List.set_cons_zero, List.set_cons_succ]
        refine Sx.take (v := .int .i64 1) (by kernel_rfl) ?_ ?_
        · have p_ := x0; go_simp
        simp only [Act.put, List.getElem_toArray, List.getElem_cons_zero, List.getElem_cons_succ, List.setIfInBounds_toArray, List.set_cons_zero, List.set_cons_succ]
        refine Sx.take (v := .bool false) (by kernel_rfl) ?_ ?_
        · exact Sx.neI rfl rfl rfl rfl
        simp only [Act.put, List.getElem_toArray, List.getElem_cons_zero, List.getElem_cons_succ, List.setIfInBounds_toArray, List.set_cons_zero, List.set_cons_succ]
        refine Sx.take (v := .bool false) (by kernel_rfl) ?_ ?_
        · exact Sx.mv rfl rfl
        simp only [Act.put, List.getElem_toArray, List.getElem_cons_zero, List.getElem_cons_succ, List.setIfInBounds_toArray, List.set_cons_zero, List.set_cons_succ]
        refine Sx.take (v := .pointer (some ⟨b7, 0, none⟩)) (by kernel_rfl) ?_ ?_
        · go_simp
        simp only [Act.put, List.getElem_toArray, List.getElem_cons_zero, List.getElem_cons_succ, List.setIfInBounds_toArray, List.set_cons_zero, List.set_cons_succ]
        refine Sx.take (v := .int .i64 1) (by kernel_rfl) ?_ ?_
        · have p_ := y0; go_simp
        simp only [Act.put, List.getElem_toArray, List.getElem_cons_zero, List.getElem_cons_succ, List.setIfInBounds_toArray, List.set_cons_zero, List.set_cons_succ]
        refine Sx.take (v := .bool false) (by kernel_rfl) ?_ ?_
        · exact Sx.neI rfl rfl rfl rfl
        simp only [Act.put, List.getElem_toArray, List.getElem_cons_zero, List.getElem_cons_succ, List.setIfInBounds_toArray, List.set_cons_zero, List.set_cons_succ]
        refine Sx.take (v := .bool false) (by kernel_rfl) ?_ ?_
        · exact Sx.pickF rfl rfl rfl
        simp only [Act.put, List.getElem_toArray, List.getElem_cons_zero, List.getElem_cons_succ, List.setIfInBounds_toArray, List.set_cons_zero, List.set_cons_succ]
        refine Sx.take (v := .bool false) (by kernel_rfl) ?_ ?_
        · exact Sx.mv rfl rfl
        simp only [Act.put, List.getElem_toArray, List.getElem_cons_zero, List.getElem_cons_succ, List.setIfInBounds_toArray, List.set_cons_zero, List.set_cons_succ]
        refine Sx.take (v := .pointer (some ⟨b8, 0, none⟩)) (by kernel_rfl) ?_ ?_
        · go_simp
        simp only [Act.put, List.getElem_toArray, List.getElem_cons_zero, List.getElem_cons_succ, List.setIfInBounds_toArray, List.set_cons_zero, List.set_cons_succ]
        refine Sx.take (v := .int .i64 2) (by kernel_rfl) ?_ ?_
        · have p_ := z0; go_simp
        simp only [Act.put, List.getElem_toArray, List.getElem_cons_zero, List.getElem_cons_succ, List.setIfInBounds_toArray, List.set_cons_zero, List.set_cons_succ]
        refine Sx.take (v := .bool false) (by kernel_rfl) ?_ ?_
        · exact Sx.neI rfl rfl rfl rfl
        simp only [Act.put, List.getElem_toArray, List.getElem_cons_zero, List.getElem_cons_succ, List.setIfInBounds_toArray, List.set_cons_zero, List.set_cons_succ]
        refine Sx.take (v := .bool false) (by kernel_rfl) ?_ ?_
        · exact Sx.pickF rfl rfl rfl
        simp only [Act.put, List.getElem_toArray, List.getElem_cons_zero, List.getElem_cons_succ, List.setIfInBounds_toArray, List.set_cons_zero, List.set_cons_succ]
        refine Sx.take (v := .bool false) (by kernel_rfl) ?_ ?_
        · exact Sx.mv rfl rfl
        simp only [Act.put, List.getElem_toArray, List.getElem_cons_zero, List.getElem_cons_succ, List.setIfInBounds_toArray, List.set_cons_zero, List.set_cons_succ]
        refine Sx.take (v := .pointer (some ⟨b6, 5, none⟩)) (by kernel_rfl) ?_ ?_
        · go_simp
        simp only [Act.put, List.getElem_toArray, List.getElem_cons_zero, List.getElem_cons_succ, List.setIfInBounds_toArray, List.set_cons_zero, List.set_cons_succ]
        refine Sx.take (v := .int .i64 5) (by kernel_rfl) ?_ ?_
        · have p_ := x5; go_simp
        simp only [Act.put, List.getElem_toArray, List.getElem_cons_zero, List.getElem_cons_succ, List.setIfInBounds_toArray, List.set_cons_zero, List.set_cons_succ]
        refine Sx.take (v := .int .i64 0) (by kernel_rfl) ?_ ?_
        · exact Sx.andI rfl rfl rfl rfl
        simp only [Act.put, List.getElem_toArray, List.getElem_cons_zero, List.getElem_cons_succ, List.setIfInBounds_toArray, List.set_cons_zero, List.set_cons_succ]
        refine Sx.take (v := .bool false) (by kernel_rfl) ?_ ?_
        · exact Sx.neI rfl rfl rfl rfl
        simp only [Act.put, List.getElem_toArray, List.getElem_cons_zero, List.getElem_cons_succ, List.setIfInBounds_toArray, List.set_cons_zero, List.set_cons_succ]
        refine Sx.take (v := .bool false) (by kernel_rfl) ?_ ?_
        · exact Sx.pickF rfl rfl rfl
        simp only [Act.put, List.getElem_toArray, List.getElem_cons_zero, List.getElem_cons_succ, List.setIfInBounds_toArray, List.set_cons_zero, List.set_cons_succ]
        refine Sx.take (v := .bool false) (by kernel_rfl) ?_ ?_
        · exact Sx.mv rfl rfl
        simp only [Act.put, List.getElem_toArray, List.getElem_cons_zero, List.getElem_cons_succ, List.setIfInBounds_toArray, List.set_cons_zero, List.set_cons_succ]
        refine Sx.take (v := .pointer (some ⟨b7, 5, none⟩)) (by kernel_rfl) ?_ ?_
        · go_simp
        simp only [Act.put, List.getElem_toArray, List.getElem_cons_zero, List.getElem_cons_succ, List.setIfInBounds_toArray, List.set_cons_zero, List.set_cons_succ]
        refine Sx.take (v := .int .i64 3) (by kernel_rfl) ?_ ?_
        · have p_ := y5; go_simp
        simp only [Act.put, List.getElem_toArray, List.getElem_cons_zero, List.getElem_cons_succ, List.setIfInBounds_toArray, List.set_cons_zero, List.set_cons_succ]
        refine Sx.take (v := .int .i64 0) (by kernel_rfl) ?_ ?_
        · exact Sx.andI rfl rfl rfl rfl
        simp only [Act.put, List.getElem_toArray, List.getElem_cons_zero, List.getElem_cons_succ, List.setIfInBounds_toArray, List.set_cons_zero, List.set_cons_succ]
        refine Sx.take (v := .bool false) (by kernel_rfl) ?_ ?_
        · exact Sx.neI rfl rfl rfl rfl
        simp only [Act.put, List.getElem_toArray, List.getElem_cons_zero, List.getElem_cons_succ, List.setIfInBounds_toArray, List.set_cons_zero, List.set_cons_succ]
        refine Sx.take (v := .bool false) (by kernel_rfl) ?_ ?_
        · exact Sx.pickF rfl rfl rfl
        simp only [Act.put, List.getElem_toArray, List.getElem_cons_zero, List.getElem_cons_succ, List.setIfInBounds_toArray, List.set_cons_zero, List.set_cons_succ]
        refine wpList_nil ?_
        go_upto_region 12 with fail
        refine wp_region_list ?_
        refine Sx.take (v := .pointer (some ⟨b6, 2, none⟩)) (by kernel_rfl) ?_ ?_
        · go_simp
        simp only [Act.put, List.getElem_toArray, List.getElem_cons_zero, List.getElem_cons_succ, List.setIfInBounds_toArray, List.set_cons_zero, List.set_cons_succ]
        refine Sx.take (v := .int .u32 (a0 : Int)) (by kernel_rfl) ?_ ?_
        · have p_ := x2; go_simp
        simp only [Act.put, List.getElem_toArray, List.getElem_cons_zero, List.getElem_cons_succ, List.setIfInBounds_toArray, List.set_cons_zero, List.set_cons_succ]
        refine Sx.take (v := .pointer (some ⟨b6, 3, none⟩)) (by kernel_rfl) ?_ ?_
        · go_simp
        simp only [Act.put, List.getElem_toArray, List.getElem_cons_zero, List.getElem_cons_succ, List.setIfInBounds_toArray, List.set_cons_zero, List.set_cons_succ]
        refine Sx.take (v := .int .u32 (s0 : Int)) (by kernel_rfl) ?_ ?_
        · have p_ := x3; go_simp
        simp only [Act.put, List.getElem_toArray, List.getElem_cons_zero, List.getElem_cons_succ, List.setIfInBounds_toArray, List.set_cons_zero, List.set_cons_succ]
        refine Sx.take (v := .int .u32 (A0S : Int)) (by kernel_rfl) ?_ ?_
        · exact Sx.add rfl rfl rfl HJ.out.1
        simp only [Act.put, List.getElem_toArray, List.getElem_cons_zero, List.getElem_cons_succ, List.setIfInBounds_toArray, List.set_cons_zero, List.set_cons_succ]
        refine Sx.take (v := .int .u32 (A0T : Int)) (by kernel_rfl) ?_ ?_
        · exact Sx.sub rfl rfl rfl HJ.out.2.1
        simp only [Act.put, List.getElem_toArray, List.getElem_cons_zero, List.getElem_cons_succ, List.setIfInBounds_toArray, List.set_cons_zero, List.set_cons_succ]
        refine Sx.take (v := .int .u32 (A0Q : Int)) (by kernel_rfl) ?_ ?_
        · exact Sx.quo rfl rfl rfl (by decide) HJ.out.2.2.1
        simp only [Act.put, List.getElem_toArray, List.getElem_cons_zero, List.getElem_cons_succ, List.setIfInBounds_toArray, List.set_cons_zero, List.set_cons_succ]
        refine Sx.take (v := .pointer (some ⟨b7, 2, none⟩)) (by kernel_rfl) ?_ ?_
        · go_simp
        simp only [Act.put, List.getElem_toArray, List.getElem_cons_zero, List.getElem_cons_succ, List.setIfInBounds_toArray, List.set_cons_zero, List.set_cons_succ]
        refine Sx.take (v := .int .u32 (a1 : Int)) (by kernel_rfl) ?_ ?_
        · have p_ := y2; go_simp
        simp only [Act.put, List.getElem_toArray, List.getElem_cons_zero, List.getElem_cons_succ, List.setIfInBounds_toArray, List.set_cons_zero, List.set_cons_succ]
        refine Sx.take (v := .int .u32 (A1Q : Int)) (by kernel_rfl) ?_ ?_
        · exact Sx.quo rfl rfl rfl (by decide) HJ.out.2.2.2.1
        simp only [Act.put, List.getElem_toArray, List.getElem_cons_zero, List.getElem_cons_succ, List.setIfInBounds_toArray, List.set_cons_zero, List.set_cons_succ]
        refine Sx.take (v := .bool true) (by kernel_rfl) ?_ ?_
        · exact Sx.ltI rfl rfl rfl HJ.out.2.2.2.2.1
        simp only [Act.put, List.getElem_toArray, List.getElem_cons_zero, List.getElem_cons_succ, List.setIfInBounds_toArray, List.set_cons_zero, List.set_cons_succ]
        refine Sx.take (v := .bool true) (by kernel_rfl) ?_ ?_
        · exact Sx.mv rfl rfl
        simp only [Act.put, List.getElem_toArray, List.getElem_cons_zero, List.getElem_cons_succ, List.setIfInBounds_toArray, List.set_cons_zero, List.set_cons_succ]
        refine Sx.take (v := .pointer (some ⟨b8, 3, none⟩)) (by kernel_rfl) ?_ ?_
        · go_simp
        simp only [Act.put, List.getElem_toArray, List.getElem_cons_zero, List.getElem_cons_succ, List.setIfInBounds_toArray, List.set_cons_zero, List.set_cons_succ]
        refine Sx.take (v := .int .u32 (s2 : Int)) (by kernel_rfl) ?_ ?_
        · have p_ := z3; go_simp
        simp only [Act.put, List.getElem_toArray, List.getElem_cons_zero, List.getElem_cons_succ, List.setIfInBounds_toArray, List.set_cons_zero, List.set_cons_succ]
        refine Sx.take (v := .int .u32 ((0 : Nat) : Int)) (by kernel_rfl) ?_ ?_
        · exact Sx.rem rfl rfl rfl (by decide) HJ.out.2.2.2.2.2.1
        simp only [Act.put, List.getElem_toArray, List.getElem_cons_zero, List.getElem_cons_succ, List.setIfInBounds_toArray, List.set_cons_zero, List.set_cons_succ]
        refine Sx.take (v := .bool true) (by kernel_rfl) ?_ ?_
        · exact Sx.eqI rfl rfl rfl rfl
        simp only [Act.put, List.getElem_toArray, List.getElem_cons_zero, List.getElem_cons_succ, List.setIfInBounds_toArray, List.set_cons_zero, List.set_cons_succ]
        refine Sx.take (v := .bool true) (by kernel_rfl) ?_ ?_
        · exact Sx.pickT rfl rfl rfl
        simp only [Act.put, List.getElem_toArray, List.getElem_cons_zero, List.getElem_cons_succ, List.setIfInBounds_toArray, List.set_cons_zero, List.set_cons_succ]
        refine Sx.take (v := .bool true) (by kernel_rfl) ?_ ?_
        · exact Sx.mv rfl rfl
        simp only [Act.put, List.getElem_toArray, List.getElem_cons_zero, List.getElem_cons_succ, List.setIfInBounds_toArray, List.set_cons_zero, List.set_cons_succ]
        refine Sx.take (v := .pointer (some ⟨b8, 2, none⟩)) (by kernel_rfl) ?_ ?_
        · go_simp
        simp only [Act.put, List.getElem_toArray, List.getElem_cons_zero, List.getElem_cons_succ, List.setIfInBounds_toArray, List.set_cons_zero, List.set_cons_succ]
        refine Sx.take (v := .int .u32 (a2 : Int)) (by kernel_rfl) ?_ ?_
        · have p_ := z2; go_simp
        simp only [Act.put, List.getElem_toArray, List.getElem_cons_zero, List.getElem_cons_succ, List.setIfInBounds_toArray, List.set_cons_zero, List.set_cons_succ]
        refine Sx.take (v := .pointer (some ⟨b6, 2, none⟩)) (by kernel_rfl) ?_ ?_
        · go_simp
        simp only [Act.put, List.getElem_toArray, List.getElem_cons_zero, List.getElem_cons_succ, List.setIfInBounds_toArray, List.set_cons_zero, List.set_cons_succ]
        refine Sx.take (v := .int .u32 (a0 : Int)) (by kernel_rfl) ?_ ?_
        · have p_ := x2; go_simp
        simp only [Act.put, List.getElem_toArray, List.getElem_cons_zero, List.getElem_cons_succ, List.setIfInBounds_toArray, List.set_cons_zero, List.set_cons_succ]
        refine Sx.take (v := .bool true) (by kernel_rfl) ?_ ?_
        · exact Sx.geI rfl rfl rfl HJ.out.2.2.2.2.2.2.1
        simp only [Act.put, List.getElem_toArray, List.getElem_cons_zero, List.getElem_cons_succ, List.setIfInBounds_toArray, List.set_cons_zero, List.set_cons_succ]
        refine Sx.take (v := .bool true) (by kernel_rfl) ?_ ?_
        · exact Sx.pickT rfl rfl rfl
        simp only [Act.put, List.getElem_toArray, List.getElem_cons_zero, List.getElem_cons_succ, List.setIfInBounds_toArray, List.set_cons_zero, List.set_cons_succ]
        refine Sx.take (v := .bool true) (by kernel_rfl) ?_ ?_
        · exact Sx.mv rfl rfl
        simp only [Act.put, List.getElem_toArray, List.getElem_cons_zero, List.getElem_cons_succ, List.setIfInBounds_toArray, List.set_cons_zero, List.set_cons_succ]
        refine Sx.take (v := .pointer (some ⟨b8, 2, none⟩)) (by kernel_rfl) ?_ ?_
        · go_simp
        simp only [Act.put, List.getElem_toArray, List.getElem_cons_zero, List.getElem_cons_succ, List.setIfInBounds_toArray, List.set_cons_zero, List.set_cons_succ]
        refine Sx.take (v := .int .u32 (a2 : Int)) (by kernel_rfl) ?_ ?_
        · have p_ := z2; go_simp
        simp only [Act.put, List.getElem_toArray, List.getElem_cons_zero, List.getElem_cons_succ, List.setIfInBounds_toArray, List.set_cons_zero, List.set_cons_succ]
        refine Sx.take (v := .pointer (some ⟨b8, 3, none⟩)) (by kernel_rfl) ?_ ?_
        · go_simp
        simp only [Act.put, List.getElem_toArray, List.getElem_cons_zero, List.getElem_cons_succ, List.setIfInBounds_toArray, List.set_cons_zero, List.set_cons_succ]
        refine Sx.take (v := .int .u32 (s2 : Int)) (by kernel_rfl) ?_ ?_
        · have p_ := z3; go_simp
        simp only [Act.put, List.getElem_toArray, List.getElem_cons_zero, List.getElem_cons_succ, List.setIfInBounds_toArray, List.set_cons_zero, List.set_cons_succ]
        refine Sx.take (v := .int .u32 (A2S : Int)) (by kernel_rfl) ?_ ?_
        · exact Sx.add rfl rfl rfl HJ.out.2.2.2.2.2.2.2.1
        simp only [Act.put, List.getElem_toArray, List.getElem_cons_zero, List.getElem_cons_succ, List.setIfInBounds_toArray, List.set_cons_zero, List.set_cons_succ]
        refine Sx.take (v := .pointer (some ⟨b6, 2, none⟩)) (by kernel_rfl) ?_ ?_
        · go_simp
        simp only [Act.put, List.getElem_toArray, List.getElem_cons_zero, List.getElem_cons_succ, List.setIfInBounds_toArray, List.set_cons_zero, List.set_cons_succ]
        refine Sx.take (v := .int .u32 (a0 : Int)) (by kernel_rfl) ?_ ?_
        · have p_ := x2; go_simp
        simp only [Act.put, List.getElem_toArray, List.getElem_cons_zero, List.getElem_cons_succ, List.setIfInBounds_toArray, List.set_cons_zero, List.set_cons_succ]
        refine Sx.take (v := .pointer (some ⟨b6, 3, none⟩)) (by kernel_rfl) ?_ ?_
        · go_simp
        simp only [Act.put, List.getElem_toArray, List.getElem_cons_zero, List.getElem_cons_succ, List.setIfInBounds_toArray, List.set_cons_zero, List.set_cons_succ]
        refine Sx.take (v := .int .u32 (s0 : Int)) (by kernel_rfl) ?_ ?_
        · have p_ := x3; go_simp
        simp only [Act.put, List.getElem_toArray, List.getElem_cons_zero, List.getElem_cons_succ, List.setIfInBounds_toArray, List.set_cons_zero, List.set_cons_succ]
        refine Sx.take (v := .int .u32 (A0S : Int)) (by kernel_rfl) ?_ ?_
        · exact Sx.add rfl rfl rfl HJ.out.1
        simp only [Act.put, List.getElem_toArray, List.getElem_cons_zero, List.getElem_cons_succ, List.setIfInBounds_toArray, List.set_cons_zero, List.set_cons_succ]
        refine Sx.take (v := .bool true) (by kernel_rfl) ?_ ?_
        · exact Sx.leI rfl rfl rfl HJ.out.2.2.2.2.2.2.2.2
        simp only [Act.put, List.getElem_toArray, List.getElem_cons_zero, List.getElem_cons_succ, List.setIfInBounds_toArray, List.set_cons_zero, List.set_cons_succ]
        refine Sx.take (v := .bool true) (by kernel_rfl) ?_ ?_
        · exact Sx.pickT rfl rfl rfl
        simp only [Act.put, List.getElem_toArray, List.getElem_cons_zero, List.getElem_cons_succ, List.setIfInBounds_toArray, List.set_cons_zero, List.set_cons_succ]
        refine Sx.take (v := .bool true) (by kernel_rfl) ?_ ?_
        · exact Sx.mv rfl rfl
        simp only [Act.put, List.getElem_toArray, List.getElem_cons_zero, List.getElem_cons_succ, List.setIfInBounds_toArray, List.set_cons_zero, List.set_cons_succ]
        refine Sx.take (v := .int .i64 3) (by kernel_rfl) ?_ ?_
        · exact Sx.mv rfl rfl
        simp only [Act.put, List.getElem_toArray, List.getElem_cons_zero, List.getElem_cons_succ, List.setIfInBounds_toArray, List.set_cons_zero, List.set_cons_succ]
        refine Sx.take (v := .bool true) (by kernel_rfl) ?_ ?_
        · exact Sx.eqI rfl rfl rfl rfl
        simp only [Act.put, List.getElem_toArray, List.getElem_cons_zero, List.getElem_cons_succ, List.setIfInBounds_toArray, List.set_cons_zero, List.set_cons_succ]
        refine Sx.take (v := .bool true) (by kernel_rfl) ?_ ?_
        · exact Sx.mv rfl rfl
        simp only [Act.put, List.getElem_toArray, List.getElem_cons_zero, List.getElem_cons_succ, List.setIfInBounds_toArray, List.set_cons_zero, List.set_cons_succ]
        refine wpList_skip (by kernel_rfl) ?_
        simp only [Act.put, List.getElem_toArray, List.getElem_cons_zero, List.getElem_cons_succ, List.setIfInBounds_toArray, List.set_cons_zero, List.set_cons_succ]
        refine wpList_skip (by kernel_rfl) ?_
        simp only [Act.put, List.getElem_toArray, List.getElem_cons_zero, List.getElem_cons_succ, List.setIfInBounds_toArray, List.set_cons_zero, List.set_cons_succ]
        refine wpList_skip (by kernel_rfl) ?_
        simp only [Act.put, List.getElem_toArray, List.getElem_cons_zero, List.getElem_cons_succ, List.setIfInBounds_toArray, List.set_cons_zero, List.set_cons_succ]
        refine wpList_skip (by kernel_rfl) ?_
        simp only [Act.put, List.getElem_toArray, List.getElem_cons_zero, List.getElem_cons_succ, List.setIfInBounds_toArray, List.set_cons_zero, List.set_cons_succ]
        refine wpList_skip (by kernel_rfl) ?_
        simp only [Act.put, List.getElem_toArray, List.getElem_cons_zero, List.getElem_cons_succ, List.setIfInBounds_toArray, List.set_cons_zero, List.set_cons_succ]
        refine wpList_skip (by kernel_rfl) ?_
        simp only [Act.put, List.getElem_toArray, List.getElem_cons_zero, List.getElem_cons_succ, List.setIfInBounds_toArray, List.set_cons_zero, List.set_cons_succ]
        refine Sx.take (v := .bool true) (by kernel_rfl) ?_ ?_
        · exact Sx.pickT rfl rfl rfl
        simp only [Act.put, List.getElem_toArray, List.getElem_cons_zero, List.getElem_cons_succ, List.setIfInBounds_toArray, List.set_cons_zero, List.set_cons_succ]
        refine Sx.take (v := .bool true) (by kernel_rfl) ?_ ?_
        · exact Sx.pickT rfl rfl rfl
        simp only [Act.put, List.getElem_toArray, List.getElem_cons_zero, List.getElem_cons_succ, List.setIfInBounds_toArray, List.set_cons_zero, List.set_cons_succ]
        refine Sx.take (v := .bool true) (by kernel_rfl) ?_ ?_
        · exact Sx.mv rfl rfl
        simp only [Act.put, List.getElem_toArray, List.getElem_cons_zero, List.getElem_cons_succ, List.setIfInBounds_toArray, List.set_cons_zero, List.set_cons_succ]
        refine BigFrame.wpList_want (by kernel_rfl) ?_
        intro K hK
        unfold Oper.wp
        simp [go_sem]
        refine (K8.out _).mono ?_
        rintro e w6 ⟨rfl, hb6⟩
        have HB9 : Hid (Below w.heap.size w w6) := below_tr HWC.out hb6
        refine hK _ _ ?_
        try simp only [Act.put, List.getElem_toArray, List.getElem_cons_zero, List.getElem_cons_succ, List.setIfInBounds_toArray, List.set_cons_zero, List.set_cons_succ]
        refine Sx.take (v := .bool true) (by kernel_rfl) ?_ ?_
        · exact Sx.pickT rfl rfl rfl
        simp only [Act.put, List.getElem_toArray, List.getElem_cons_zero, List.getElem_cons_succ, List.setIfInBounds_toArray, List.set_cons_zero, List.set_cons_succ]
        refine Sx.take (v := .bool true) (by kernel_rfl) ?_ ?_
        · exact Sx.asn rfl rfl
        simp only [Act.put, List.getElem_toArray, List.getElem_cons_zero, List.getElem_cons_succ, List.setIfInBounds_toArray, List.set_cons_zero, List.set_cons_succ]
        refine wpList_nil ?_
        go_wp2
        go_ret
        exact ⟨rfl, HB9.out⟩
      · rw [if_neg hip] at hgs
        subst hgs
        obtain ⟨ao, vc, hvv, _, _, _, h4⟩ := hown.sl
        simp at hvv
        obtain ⟨vb, vo, rfl, m0⟩ := h4 0 (by simp)
        obtain ⟨_, _, e1, m1⟩ := h4 1 (by simp)
        obtain ⟨_, _, e2, m2⟩ := h4 2 (by simp)
        obtain ⟨_, _, e3, m3⟩ := h4 3 (by simp)
        injection e1 with e1
        injection e1 with e1a e1b
        subst e1a e1b
        injection e2 with e2
        injection e2 with e2a e2b
        subst e2a e2b
        injection e3 with e3
        injection e3 with e3a e3b
        subst e3a e3b
        subst hvv
        clear h4 hown
        obtain ⟨W8, hW8⟩ : ∃ z, w7.alloc (.cells #[.bool HS, .int .u32 (HE : Int), .slice (some ⟨vb, vo, none⟩) 4 vc] 37) = z := ⟨_, rfl⟩
        have b8 : Below w7.heap.size w7 W8 := by rw [← hW8]; exact (Below.refl _ _).alloc (Nat.le_refl _) _
        have s2_ : W8.cell? ⟨w7.heap.size, 2, none⟩ = some (.slice (some ⟨vb, vo, none⟩) 4 vc) := by rw [← hW8]; exact cell_newA _ _ _ _ _ _ rfl rfl
        have H8 : Hid (Below W1.heap.size W1 W8) := below_tr H7.out b8
        have HW8 : Hid (Below w.heap.size w W8) := below_tr H1.out H8.out
        have G0 : Hid (E.At7 W8 vb (vo + 0 * 7) ⟨1, o0, a0, s0, r0, 5, 4096⟩) := m0.keep b8
        have G1 : Hid (E.At7 W8 vb (vo + 1 * 7) ⟨1, o1, a1, s1, r1, 3, 4096⟩) := m1.keep b8
        have G2 : Hid (E.At7 W8 vb (vo + 2 * 7) ⟨2, o2, a2, s2, r2, 3, 4⟩) := m2.keep b8
        have G3 : Hid (E.At7 W8 vb (vo + 3 * 7) ⟨3, o3, a3, s3, r3, 1, 1⟩) := m3.keep b8
        clear b8 m0 m1 m2 m3
        have nn := HN.out W8 H8.out
        have c0 : W8.cell? ⟨w.heap.size, 0, none⟩ = some (.bool SH) := cell14 nn 0 rfl
        have c1 : W8.cell? ⟨w.heap.size, 1, none⟩ = some (.int .u32 (BA : Int)) := cell14 nn 1 rfl
        have c2 : W8.cell? ⟨w.heap.size, 2, none⟩ = some (.int .u32 (EN : Int)) := cell14 nn 2 rfl
        have c3 : W8.cell? ⟨w.heap.size, 3, none⟩ = some (.string C) := cell14 nn 3 rfl
        have c4 : W8.cell? ⟨w.heap.size, 4, none⟩ = some (.string D) := cell14 nn 4 rfl
        have c5 : W8.cell? ⟨w.heap.size, 5, none⟩ = some (.int .u32 (BS : Int)) := cell14 nn 5 rfl
        have c6 : W8.cell? ⟨w.heap.size, 6, none⟩ = some (.slice na NN nc) := cell14 nn 6 rfl
        have c7 : W8.cell? ⟨w.heap.size, 7, none⟩ = some (.string SN) := cell14 nn 7 rfl
        have c8 : W8.cell? ⟨w.heap.size, 8, none⟩ = some (.string IP) := cell14 nn 8 rfl
        have c9 : W8.cell? ⟨w.heap.size, 9, none⟩ = some (.slice ya YY yc) := cell14 nn 9 rfl
        have c10 : W8.cell? ⟨w.heap.size, 10, none⟩ = some (.slice ra RR rc) := cell14 nn 10 rfl
        have c11 : W8.cell? ⟨w.heap.size, 11, none⟩ = some (.slice la LL lc) := cell14 nn 11 rfl
        have c12 : W8.cell? ⟨w.heap.size, 12, none⟩ = some (.int .i64 GG) := cell14 nn 12 rfl
        have c13 : W8.cell? ⟨w.heap.size, 13, none⟩ = some (.int .u32 (NI : Int)) := cell14 nn 13 rfl
        clear nn
        go_upto_region 5 with fail
        try rw [hW8]
        clear hW8
        have HQ : Hid ((!(IP.toList == (⟨#[]⟩ : ByteArray).toList)) = true) := by show _ = _; rw [tIP.out, show (⟨#[]⟩ : ByteArray).toList = [] from bal []]; cases IPL with
          | nil => exact absurd rfl hip
          | cons a b => rfl
        refine wp_region_list ?_
        refine Sx.take (v := .pointer (some ⟨w.heap.size, 8, none⟩)) (by kernel_rfl) ?_ ?_
        · go_simp
        simp only [Act.put, List.getElem_toArray, List.getElem_cons_zero, List.getElem_cons_succ, List.setIfInBounds_toArray, List.set_cons_zero, List.set_cons_succ]
        refine Sx.take (v := .string IP) (by kernel_rfl) ?_ ?_
        · have p_ := c8; go_simp
        simp only [Act.put, List.getElem_toArray, List.getElem_cons_zero, List.getElem_cons_succ, List.setIfInBounds_toArray, List.set_cons_zero, List.set_cons_succ]
        refine Sx.take (v := .bool true) (by kernel_rfl) ?_ ?_
        · exact Sx.neS rfl rfl rfl HQ.out
        simp only [Act.put, List.getElem_toArray, List.getElem_cons_zero, List.getElem_cons_succ, List.setIfInBounds_toArray, List.set_cons_zero, List.set_cons_succ]
        refine wpList_nil ?_
        go_upto_region 7 with fail
        refine wp_region_list ?_
        refine Sx.take (v := .int .i64 0) (by kernel_rfl) ?_ ?_
        · exact Sx.mv rfl rfl
        simp only [Act.put, List.getElem_toArray, List.getElem_cons_zero, List.getElem_cons_succ, List.setIfInBounds_toArray, List.set_cons_zero, List.set_cons_succ]
        refine Sx.take (v := .bool false) (by kernel_rfl) ?_ ?_
        · exact Sx.neI rfl rfl rfl rfl
        simp only [Act.put, List.getElem_toArray, List.getElem_cons_zero, List.getElem_cons_succ, List.setIfInBounds_toArray, List.set_cons_zero, List.set_cons_succ]
        refine Sx.take (v := .bool false) (by kernel_rfl) ?_ ?_
        · exact Sx.mv rfl rfl
        simp only [Act.put, List.getElem_toArray, List.getElem_cons_zero, List.getElem_cons_succ, List.setIfInBounds_toArray, List.set_cons_zero, List.set_cons_succ]
        refine Sx.take (v := .pointer (some ⟨w7.heap.size, 2, none⟩)) (by kernel_rfl) ?_ ?_
        · go_simp
        simp only [Act.put, List.getElem_toArray, List.getElem_cons_zero, List.getElem_cons_succ, List.setIfInBounds_toArray, List.set_cons_zero, List.set_cons_succ]
        refine Sx.take (v := .slice (some ⟨vb, vo, none⟩) 4 vc) (by kernel_rfl) ?_ ?_
        · have p_ := s2_; go_simp
        simp only [Act.put, List.getElem_toArray, List.getElem_cons_zero, List.getElem_cons_succ, List.setIfInBounds_toArray, List.set_cons_zero, List.set_cons_succ]
        refine Sx.take (v := .int .i64 4) (by kernel_rfl) ?_ ?_
        · exact Sx.lenV (e := 41) (by kernel_rfl) rfl rfl
        simp only [Act.put, List.getElem_toArray, List.getElem_cons_zero, List.getElem_cons_succ, List.setIfInBounds_toArray, List.set_cons_zero, List.set_cons_succ]
        refine Sx.take (v := .int .i64 4) (by kernel_rfl) ?_ ?_
        · exact Sx.mv rfl rfl
        simp only [Act.put, List.getElem_toArray, List.getElem_cons_zero, List.getElem_cons_succ, List.setIfInBounds_toArray, List.set_cons_zero, List.set_cons_succ]
        refine Sx.take (v := .bool false) (by kernel_rfl) ?_ ?_
        · exact Sx.neI rfl rfl rfl rfl
        simp only [Act.put, List.getElem_toArray, List.getElem_cons_zero, List.getElem_cons_succ, List.setIfInBounds_toArray, List.set_cons_zero, List.set_cons_succ]
        refine Sx.take (v := .bool false) (by kernel_rfl) ?_ ?_
        · exact Sx.pickF rfl rfl rfl
        simp only [Act.put, List.getElem_toArray, List.getElem_cons_zero, List.getElem_cons_succ, List.setIfInBounds_toArray, List.set_cons_zero, List.set_cons_succ]
        refine wpList_nil ?_
        go_upto_region 9 with fail
        refine wp_region_held_drew (S := fun w' => Below W8.heap.size W8 w') (by kernel_rfl) (Below.refl _ _).drew (fun hS => ?_)
        refine wpAnyH_take (i := 0) (v := .pointer (some ⟨w7.heap.size, 2, none⟩)) rfl (by kernel_rfl) (by kernel_rfl) (by kernel_rfl) (fun _ _ _ h => h) (Or.inl ⟨by kernel_rfl, fun wq hSw => ?_⟩) hS ?_
        · go_simp
        simp only [Act.put, List.getElem_toArray, List.getElem_cons_zero, List.getElem_cons_succ, List.setIfInBounds_toArray, List.set_cons_zero, List.set_cons_succ]
        refine wpAnyH_take (i := 1) (v := .slice (some ⟨vb, vo, none⟩) 4 vc) rfl (by kernel_rfl) (by kernel_rfl) (by kernel_rfl) (fun _ _ _ h => h) (Or.inl ⟨by kernel_rfl, fun wq hSw => ?_⟩) hS ?_
        · have p_ := keep_cell hSw s2_; go_simp
        simp only [Act.put, List.getElem_toArray, List.getElem_cons_zero, List.getElem_cons_succ, List.setIfInBounds_toArray, List.set_cons_zero, List.set_cons_succ]
        refine wpAnyH_take (i := 2) (v := .pointer (some ⟨vb, vo, none⟩)) rfl (by kernel_rfl) (by kernel_rfl) (by kernel_rfl) (fun _ _ _ h => h) (Or.inl ⟨by kernel_rfl, fun wq hSw => ?_⟩) hS ?_
        · go_simp
        simp only [Act.put, List.getElem_toArray, List.getElem_cons_zero, List.getElem_cons_succ, List.setIfInBounds_toArray, List.set_cons_zero, List.set_cons_succ]
        refine wpAnyH_take (i := 3) (v := .agg #[.int .i64 1, .int .u32 (o0 : Int), .int .u32 (a0 : Int), .int .u32 (s0 : Int), .int .u32 (r0 : Int), .int .i64 5, .int .u32 4096]) rfl (by kernel_rfl) (by kernel_rfl) (by kernel_rfl) (fun _ _ _ h => h) (Or.inl ⟨by kernel_rfl, fun wq hSw => ?_⟩) hS ?_
        · obtain ⟨t0, t1, t2, t3, t4, t5, t6⟩ := G0.out.keep hSw; clear H7 HW7 H8 HW8; simp only [Nat.zero_mul, Nat.one_mul, Nat.reduceMul, Nat.add_zero, Nat.add_assoc, Nat.reduceAdd] at t0 t1 t2 t3 t4 t5 t6; go_simp
        simp only [Act.put, List.getElem_toArray, List.getElem_cons_zero, List.getElem_cons_succ, List.setIfInBounds_toArray, List.set_cons_zero, List.set_cons_succ]
        refine wpAnyH_take (i := 4) (v := .pointer (some ⟨w7.heap.size, 2, none⟩)) rfl (by kernel_rfl) (by kernel_rfl) (by kernel_rfl) (fun _ _ _ h => h) (Or.inl ⟨by kernel_rfl, fun wq hSw => ?_⟩) hS ?_
        · go_simp
        simp only [Act.put, List.getElem_toArray, List.getElem_cons_zero, List.getElem_cons_succ, List.setIfInBounds_toArray, List.set_cons_zero, List.set_cons_succ]
        refine wpAnyH_take (i := 5) (v := .slice (some ⟨vb, vo, none⟩) 4 vc) rfl (by kernel_rfl) (by kernel_rfl) (by kernel_rfl) (fun _ _ _ h => h) (Or.inl ⟨by kernel_rfl, fun wq hSw => ?_⟩) hS ?_
        · have p_ := keep_cell hSw s2_; go_simp
        simp only [Act.put, List.getElem_toArray, List.getElem_cons_zero, List.getElem_cons_succ, List.setIfInBounds_toArray, List.set_cons_zero, List.set_cons_succ]
        refine wpAnyH_take (i := 6) (v := .pointer (some ⟨vb, vo + 7, none⟩)) rfl (by kernel_rfl) (by kernel_rfl) (by kernel_rfl) (fun _ _ _ h => h) (Or.inl ⟨by kernel_rfl, fun wq hSw => ?_⟩) hS ?_
        · go_simp
        simp only [Act.put, List.getElem_toArray, List.getElem_cons_zero, List.getElem_cons_succ, List.setIfInBounds_toArray, List.set_cons_zero, List.set_cons_succ]
        refine wpAnyH_take (i := 7) (v := .agg #[.int .i64 1, .int .u32 (o1 : Int), .int .u32 (a1 : Int), .int .u32 (s1 : Int), .int .u32 (r1 : Int), .int .i64 3, .int .u32 4096]) rfl (by kernel_rfl) (by kernel_rfl) (by kernel_rfl) (fun _ _ _ h => h) (Or.inl ⟨by kernel_rfl, fun wq hSw => ?_⟩) hS ?_
        · obtain ⟨t0, t1, t2, t3, t4, t5, t6⟩ := G1.out.keep hSw; clear H7 HW7 H8 HW8; simp only [Nat.zero_mul, Nat.one_mul, Nat.reduceMul, Nat.add_zero, Nat.add_assoc, Nat.reduceAdd] at t0 t1 t2 t3 t4 t5 t6; go_simp
        simp only [Act.put, List.getElem_toArray, List.getElem_cons_zero, List.getElem_cons_succ, List.setIfInBounds_toArray, List.set_cons_zero, List.set_cons_succ]
        refine wpAnyH_take (i := 8) (v := .pointer (some ⟨w7.heap.size, 2, none⟩)) rfl (by kernel_rfl) (by kernel_rfl) (by kernel_rfl) (fun _ _ _ h => h) (Or.inl ⟨by kernel_rfl, fun wq hSw => ?_⟩) hS ?_
        · go_simp
        simp only [Act.put, List.getElem_toArray, List.getElem_cons_zero, List.getElem_cons_succ, List.setIfInBounds_toArray, List.set_cons_zero, List.set_cons_succ]
        refine wpAnyH_take (i := 9) (v := .slice (some ⟨vb, vo, none⟩) 4 vc) rfl (by kernel_rfl) (by kernel_rfl) (by kernel_rfl) (fun _ _ _ h => h) (Or.inl ⟨by kernel_rfl, fun wq hSw => ?_⟩) hS ?_
        · have p_ := keep_cell hSw s2_; go_simp
        simp only [Act.put, List.getElem_toArray, List.getElem_cons_zero, List.getElem_cons_succ, List.setIfInBounds_toArray, List.set_cons_zero, List.set_cons_succ]
        refine wpAnyH_take (i := 10) (v := .pointer (some ⟨vb, vo + 14, none⟩)) rfl (by kernel_rfl) (by kernel_rfl) (by kernel_rfl) (fun _ _ _ h => h) (Or.inl ⟨by kernel_rfl, fun wq hSw => ?_⟩) hS ?_
        · go_simp
        simp only [Act.put, List.getElem_toArray, List.getElem_cons_zero, List.getElem_cons_succ, List.setIfInBounds_toArray, List.set_cons_zero, List.set_cons_succ]
        refine wpAnyH_take (i := 11) (v := .agg #[.int .i64 2, .int .u32 (o2 : Int), .int .u32 (a2 : Int), .int .u32 (s2 : Int), .int .u32 (r2 : Int), .int .i64 3, .int .u32 4]) rfl (by kernel_rfl) (by kernel_rfl) (by kernel_rfl) (fun _ _ _ h => h) (Or.inl ⟨by kernel_rfl, fun wq hSw => ?_⟩) hS ?_
        · obtain ⟨t0, t1, t2, t3, t4, t5, t6⟩ := G2.out.keep hSw; clear H7 HW7 H8 HW8; simp only [Nat.zero_mul, Nat.one_mul, Nat.reduceMul, Nat.add_zero, Nat.add_assoc, Nat.reduceAdd] at t0 t1 t2 t3 t4 t5 t6; go_simp
        simp only [Act.put, List.getElem_toArray, List.getElem_cons_zero, List.getElem_cons_succ, List.setIfInBounds_toArray, List.set_cons_zero, List.set_cons_succ]
        refine wpAnyH_new3 (i := 12) (j := 13) (k := 14) (di := 6) (dj := 7) (dk := 8) rfl (by kernel_rfl) (by kernel_rfl) (by kernel_rfl) rfl (by kernel_rfl) (by kernel_rfl) (by kernel_rfl) rfl (by kernel_rfl) (by kernel_rfl) (by kernel_rfl) (by decide) (by decide) (by decide) (by decide) (by decide) (by decide) (by kernel_rfl) (by kernel_rfl) (by kernel_rfl) (by kernel_rfl) (by kernel_rfl) (by kernel_rfl) (by kernel_rfl) (fun w' h => below_tr hS h) (fun b6 b7 b8 w9 hb9 ne67 ne68 ne78 g6 g7 g8 i6 i7 i8 => ?_)
        simp only [Act.put, List.getElem_toArray, List.getElem_cons_zero, List.getElem_cons_succ, List.setIfInBounds_toArray, List.set_cons_zero, List.set_cons_succ]
        have hS := below_tr hS hb9
        have HSZ : Hid (W8.heap.size ≤ W8.heap.size) := Nat.le_refl _
        have hge : W8.heap.size ≤ b6 ∧ W8.heap.size ≤ b7 ∧ W8.heap.size ≤ b8 := ⟨Nat.le_trans HSZ.out g6, Nat.le_trans HSZ.out g7, Nat.le_trans HSZ.out g8⟩
        obtain ⟨WA, hWA⟩ : ∃ z, z = w9.setRow b6 #[.int .i64 1, .int .u32 (o0 : Int), .int .u32 (a0 : Int), .int .u32 (s0 : Int), .int .u32 (r0 : Int), .int .i64 5, .int .u32 4096] := ⟨_, rfl⟩
        have hSA : Below W8.heap.size W8 WA := by rw [hWA]; exact hS.grown (grown_setRow _ _ _) hS.size (fun k e => by injection e with e; omega)
        have j6 : WA.heap[b6]? = some (.cells #[.int .i64 1, .int .u32 (o0 : Int), .int .u32 (a0 : Int), .int .u32 (s0 : Int), .int .u32 (r0 : Int), .int .i64 5, .int .u32 4096] 41 (0, 0)) := by rw [hWA]; exact setRow_heap _ _ _ _ _ _ i6
        have j7 : WA.heap[b7]? = some (.cells Z41 41 (0, 0)) := by rw [hWA]; exact setRow_far i7 ne67
        have j8 : WA.heap[b8]? = some (.cells Z41 41 (0, 0)) := by rw [hWA]; exact setRow_far i8 ne68
        refine wpAnyH_store (i := 15) (by kernel_rfl) rfl (by kernel_rfl) (by kernel_rfl) 41 (.tmp 6) (.tmp 39) (by kernel_rfl) b6 #[.int .i64 1, .int .u32 (o0 : Int), .int .u32 (a0 : Int), .int .u32 (s0 : Int), .int .u32 (r0 : Int), .int .i64 5, .int .u32 4096] (by kernel_rfl) (by kernel_rfl) 41 Z41 i6 (by kernel_rfl) (by kernel_rfl) (by kernel_rfl) (by rw [← hWA]; exact hSA) ?_
        rw [← hWA]
        obtain ⟨WB, hWB⟩ : ∃ z, z = WA.setRow b7 #[.int .i64 1, .int .u32 (o1 : Int), .int .u32 (a1 : Int), .int .u32 (s1 : Int), .int .u32 (r1 : Int), .int .i64 3, .int .u32 4096] := ⟨_, rfl⟩
        have hSB : Below W8.heap.size W8 WB := by rw [hWB]; exact hSA.grown (grown_setRow _ _ _) hSA.size (fun k e => by injection e with e; omega)
        have k6 : WB.heap[b6]? = some (.cells #[.int .i64 1, .int .u32 (o0 : Int), .int .u32 (a0 : Int), .int .u32 (s0 : Int), .int .u32 (r0 : Int), .int .i64 5, .int .u32 4096] 41 (0, 0)) := by rw [hWB]; exact setRow_far j6 (Ne.symm ne67)
        have k7 : WB.heap[b7]? = some (.cells #[.int .i64 1, .int .u32 (o1 : Int), .int .u32 (a1 : Int), .int .u32 (s1 : Int), .int .u32 (r1 : Int), .int .i64 3, .int .u32 4096] 41 (0, 0)) := by rw [hWB]; exact setRow_heap _ _ _ _ _ _ j7
        have k8 : WB.heap[b8]? = some (.cells Z41 41 (0, 0)) := by rw [hWB]; exact setRow_far j8 ne78
        refine wpAnyH_store (i := 16) (by kernel_rfl) rfl (by kernel_rfl) (by kernel_rfl) 41 (.tmp 7) (.tmp 43) (by kernel_rfl) b7 #[.int .i64 1, .int .u32 (o1 : Int), .int .u32 (a1 : Int), .int .u32 (s1 : Int), .int .u32 (r1 : Int), .int .i64 3, .int .u32 4096] (by kernel_rfl) (by kernel_rfl) 41 Z41 j7 (by kernel_rfl) (by kernel_rfl) (by kernel_rfl) (by rw [← hWB]; exact hSB) ?_
        rw [← hWB]
        obtain ⟨WC, hWC⟩ : ∃ z, z = WB.setRow b8 #[.int .i64 2, .int .u32 (o2 : Int), .int .u32 (a2 : Int), .int .u32 (s2 : Int), .int .u32 (r2 : Int), .int .i64 3, .int .u32 4] := ⟨_, rfl⟩
        have hSC : Below W8.heap.size W8 WC := by rw [hWC]; exact hSB.grown (grown_setRow _ _ _) hSB.size (fun k e => by injection e with e; omega)
        have l6 : WC.heap[b6]? = some (.cells #[.int .i64 1, .int .u32 (o0 : Int), .int .u32 (a0 : Int), .int .u32 (s0 : Int), .int .u32 (r0 : Int), .int .i64 5, .int .u32 4096] 41 (0, 0)) := by rw [hWC]; exact setRow_far k6 (Ne.symm ne68)
        have l7 : WC.heap[b7]? = some (.cells #[.int .i64 1, .int .u32 (o1 : Int), .int .u32 (a1 : Int), .int .u32 (s1 : Int), .int .u32 (r1 : Int), .int .i64 3, .int .u32 4096] 41 (0, 0)) := by rw [hWC]; exact setRow_far k7 (Ne.symm ne78)
        have l8 : WC.heap[b8]? = some (.cells #[.int .i64 2, .int .u32 (o2 : Int), .int .u32 (a2 : Int), .int .u32 (s2 : Int), .int .u32 (r2 : Int), .int .i64 3, .int .u32 4] 41 (0, 0)) := by rw [hWC]; exact setRow_heap _ _ _ _ _ _ k8
        refine wpAnyH_store (i := 17) (by kernel_rfl) rfl (by kernel_rfl) (by kernel_rfl) 41 (.tmp 8) (.tmp 47) (by kernel_rfl) b8 #[.int .i64 2, .int .u32 (o2 : Int), .int .u32 (a2 : Int), .int .u32 (s2 : Int), .int .u32 (r2 : Int), .int .i64 3, .int .u32 4] (by kernel_rfl) (by kernel_rfl) 41 Z41 k8 (by kernel_rfl) (by kernel_rfl) (by kernel_rfl) (by rw [← hWC]; exact hSC) ?_
        rw [← hWC]
        refine wpAnyH_done (by kernel_rfl) ?_ _
        have HWC : Hid (Below w.heap.size w WC) := below_tr HW8.out hSC
        have G3' := fun h : E.At7 W8 vb (vo + 3 * 7) ⟨3, o3, a3, s3, r3, 1, 1⟩ => h.keep hSC
        have p2 := keep_cell hSC s2_
        obtain ⟨x0, x1, x2, x3, x4, x5, x6⟩ := seven l6
        obtain ⟨y0, y1, y2, y3, y4, y5, y6⟩ := seven l7
        obtain ⟨z0, z1, z2, z3, z4, z5, z6⟩ := seven l8
        clear hS hSA hSB hSC hWA hWB hWC i6 i7 i8 j6 j7 j8 k6 k7 k8 l6 l7 l8 hge hb9 g6 g7 g8
        obtain ⟨q0, q1, q2, q3, q4, q5, q6⟩ := G3' G3.out
        simp only [Nat.reduceMul] at q0
        clear G3'
        go_upto_region 10 with fail
        refine wp_region_list ?_
        refine Sx.take (v := .pointer (some ⟨b6, 0, none⟩)) (by kernel_rfl) ?_ ?_
        · go_simp
        simp only [Act.put, List.getElem_toArray, List.getElem_cons_zero, List.getElem_cons_succ, List.setIfInBounds_toArray, List.set_cons_zero, List.set_cons_succ]
        refine Sx.take (v := .int .i64 1) (by kernel_rfl) ?_ ?_
        · have p_ := x0; go_simp
        simp only [Act.put, List.getElem_toArray, List.getElem_cons_zero, List.getElem_cons_succ, List.setIfInBounds_toArray, List.set_cons_zero, List.set_cons_succ]
        refine Sx.take (v := .bool false) (by kernel_rfl) ?_ ?_
        · exact Sx.neI rfl rfl rfl rfl
        simp only [Act.put, List.getElem_toArray, List.getElem_cons_zero, List.getElem_cons_succ, List.setIfInBounds_toArray, List.set_cons_zero, List.set_cons_succ]
        refine Sx.take (v := .bool false) (by kernel_rfl) ?_ ?_
        · exact Sx.mv rfl rfl
        simp only [Act.put, List.getElem_toArray, List.getElem_cons_zero, List.getElem_cons_succ, List.setIfInBounds_toArray, List.set_cons_zero, List.set_cons_succ]
        refine Sx.take (v := .pointer (some ⟨b7, 0, none⟩)) (by kernel_rfl) ?_ ?_
        · go_simp
        simp only [Act.put, List.getElem_toArray, List.getElem_cons_zero, List.getElem_cons_succ, List.setIfInBounds_toArray, List.set_cons_zero, List.set_cons_succ]
        refine Sx.take (v := .int .i64 1) (by kernel_rfl) ?_ ?_
        · have p_ := y0; go_simp
        simp only [Act.put, List.getElem_toArray, List.getElem_cons_zero, List.getElem_cons_succ, List.setIfInBounds_toArray, List.set_cons_zero, List.set_cons_succ]
        refine Sx.take (v := .bool false) (by kernel_rfl) ?_ ?_
        · exact Sx.neI rfl rfl rfl rfl
        simp only [Act.put, List.getElem_toArray, List.getElem_cons_zero, List.getElem_cons_succ, List.setIfInBounds_toArray, List.set_cons_zero, List.set_cons_succ]
        refine Sx.take (v := .bool false) (by kernel_rfl) ?_ ?_
        · exact Sx.pickF rfl rfl rfl
        simp only [Act.put, List.getElem_toArray, List.getElem_cons_zero, List.getElem_cons_succ, List.setIfInBounds_toArray, List.set_cons_zero, List.set_cons_succ]
        refine Sx.take (v := .bool false) (by kernel_rfl) ?_ ?_
        · exact Sx.mv rfl rfl
        simp only [Act.put, List.getElem_toArray, List.getElem_cons_zero, List.getElem_cons_succ, List.setIfInBounds_toArray, List.set_cons_zero, List.set_cons_succ]
        refine Sx.take (v := .pointer (some ⟨b8, 0, none⟩)) (by kernel_rfl) ?_ ?_
        · go_simp
        simp only [Act.put, List.getElem_toArray, List.getElem_cons_zero, List.getElem_cons_succ, List.setIfInBounds_toArray, List.set_cons_zero, List.set_cons_succ]
        refine Sx.take (v := .int .i64 2) (by kernel_rfl) ?_ ?_
        · have p_ := z0; go_simp
        simp only [Act.put, List.getElem_toArray, List.getElem_cons_zero, List.getElem_cons_succ, List.setIfInBounds_toArray, List.set_cons_zero, List.set_cons_succ]
        refine Sx.take (v := .bool false) (by kernel_rfl) ?_ ?_
        · exact Sx.neI rfl rfl rfl rfl
        simp only [Act.put, List.getElem_toArray, List.getElem_cons_zero, List.getElem_cons_succ, List.setIfInBounds_toArray, List.set_cons_zero, List.set_cons_succ]
        refine Sx.take (v := .bool false) (by kernel_rfl) ?_ ?_
        · exact Sx.pickF rfl rfl rfl
        simp only [Act.put, List.getElem_toArray, List.getElem_cons_zero, List.getElem_cons_succ, List.setIfInBounds_toArray, List.set_cons_zero, List.set_cons_succ]
        refine Sx.take (v := .bool false) (by kernel_rfl) ?_ ?_
        · exact Sx.mv rfl rfl
        simp only [Act.put, List.getElem_toArray, List.getElem_cons_zero, List.getElem_cons_succ, List.setIfInBounds_toArray, List.set_cons_zero, List.set_cons_succ]
        refine Sx.take (v := .pointer (some ⟨b6, 5, none⟩)) (by kernel_rfl) ?_ ?_
        · go_simp
        simp only [Act.put, List.getElem_toArray, List.getElem_cons_zero, List.getElem_cons_succ, List.setIfInBounds_toArray, List.set_cons_zero, List.set_cons_succ]
        refine Sx.take (v := .int .i64 5) (by kernel_rfl) ?_ ?_
        · have p_ := x5; go_simp
        simp only [Act.put, List.getElem_toArray, List.getElem_cons_zero, List.getElem_cons_succ, List.setIfInBounds_toArray, List.set_cons_zero, List.set_cons_succ]
        refine Sx.take (v := .int .i64 0) (by kernel_rfl) ?_ ?_
        · exact Sx.andI rfl rfl rfl rfl
        simp only [Act.put, List.getElem_toArray, List.getElem_cons_zero, List.getElem_cons_succ, List.setIfInBounds_toArray, List.set_cons_zero, List.set_cons_succ]
        refine Sx.take (v := .bool false) (by kernel_rfl) ?_ ?_
        · exact Sx.neI rfl rfl rfl rfl
        simp only [Act.put, List.getElem_toArray, List.getElem_cons_zero, List.getElem_cons_succ, List.setIfInBounds_toArray, List.set_cons_zero, List.set_cons_succ]
        refine Sx.take (v := .bool false) (by kernel_rfl) ?_ ?_
        · exact Sx.pickF rfl rfl rfl
        simp only [Act.put, List.getElem_toArray, List.getElem_cons_zero, List.getElem_cons_succ, List.setIfInBounds_toArray, List.set_cons_zero, List.set_cons_succ]
        refine Sx.take (v := .bool false) (by kernel_rfl) ?_ ?_
        · exact Sx.mv rfl rfl
        simp only [Act.put, List.getElem_toArray, List.getElem_cons_zero, List.getElem_cons_succ, List.setIfInBounds_toArray, List.set_cons_zero, List.set_cons_succ]
        refine Sx.take (v := .pointer (some ⟨b7, 5, none⟩)) (by kernel_rfl) ?_ ?_
        · go_simp
        simp only [Act.put, List.getElem_toArray, List.getElem_cons_zero, List.getElem_cons_succ, List.setIfInBounds_toArray, List.set_cons_zero, List.set_cons_succ]
        refine Sx.take (v := .int .i64 3) (by kernel_rfl) ?_ ?_
        · have p_ := y5; go_simp
        simp only [Act.put, List.getElem_toArray, List.getElem_cons_zero, List.getElem_cons_succ, List.setIfInBounds_toArray, List.set_cons_zero, List.set_cons_succ]
        refine Sx.take (v := .int .i64 0) (by kernel_rfl) ?_ ?_
        · exact Sx.andI rfl rfl rfl rfl
        simp only [Act.put, List.getElem_toArray, List.getElem_cons_zero, List.getElem_cons_succ, List.setIfInBounds_toArray, List.set_cons_zero, List.set_cons_succ]
        refine Sx.take (v := .bool false) (by kernel_rfl) ?_ ?_
        · exact Sx.neI rfl rfl rfl rfl
        simp only [Act.put, List.getElem_toArray, List.getElem_cons_zero, List.getElem_cons_succ, List.setIfInBounds_toArray, List.set_cons_zero, List.set_cons_succ]
        refine Sx.take (v := .bool false) (by kernel_rfl) ?_ ?_
        · exact Sx.pickF rfl rfl rfl
        simp only [Act.put, List.getElem_toArray, List.getElem_cons_zero, List.getElem_cons_succ, List.setIfInBounds_toArray, List.set_cons_zero, List.set_cons_succ]
        refine wpList_nil ?_
        go_upto_region 12 with fail
        refine wp_region_list ?_
        refine Sx.take (v := .pointer (some ⟨b6, 2, none⟩)) (by kernel_rfl) ?_ ?_
        · go_simp
        simp only [Act.put, List.getElem_toArray, List.getElem_cons_zero, List.getElem_cons_succ, List.setIfInBounds_toArray, List.set_cons_zero, List.set_cons_succ]
        refine Sx.take (v := .int .u32 (a0 : Int)) (by kernel_rfl) ?_ ?_
        · have p_ := x2; go_simp
        simp only [Act.put, List.getElem_toArray, List.getElem_cons_zero, List.getElem_cons_succ, List.setIfInBounds_toArray, List.set_cons_zero, List.set_cons_succ]
        refine Sx.take (v := .pointer (some ⟨b6, 3, none⟩)) (by kernel_rfl) ?_ ?_
        · go_simp
        simp only [Act.put, List.getElem_toArray, List.getElem_cons_zero, List.getElem_cons_succ, List.setIfInBounds_toArray, List.set_cons_zero, List.set_cons_succ]
        refine Sx.take (v := .int .u32 (s0 : Int)) (by kernel_rfl) ?_ ?_
        · have p_ := x3; go_simp
        simp only [Act.put, List.getElem_toArray, List.getElem_cons_zero, List.getElem_cons_succ, List.setIfInBounds_toArray, List.set_cons_zero, List.set_cons_succ]
        refine Sx.take (v := .int .u32 (A0S : Int)) (by kernel_rfl) ?_ ?_
        · exact Sx.add rfl rfl rfl HJ.out.1
        simp only [Act.put, List.getElem_toArray, List.getElem_cons_zero, List.getElem_cons_succ, List.setIfInBounds_toArray, List.set_cons_zero, List.set_cons_succ]
        refine Sx.take (v := .int .u32 (A0T : Int)) (by kernel_rfl) ?_ ?_
        · exact Sx.sub rfl rfl rfl HJ.out.2.1
        simp only [Act.put, List.getElem_toArray, List.getElem_cons_zero, List.getElem_cons_succ, List.setIfInBounds_toArray, List.set_cons_zero, List.set_cons_succ]
        refine Sx.take (v := .int .u32 (A0Q : Int)) (by kernel_rfl) ?_ ?_
        · exact Sx.quo rfl rfl rfl (by decide) HJ.out.2.2.1
        simp only [Act.put, List.getElem_toArray, List.getElem_cons_zero, List.getElem_cons_succ, List.setIfInBounds_toArray, List.set_cons_zero, List.set_cons_succ]
        refine Sx.take (v := .pointer (some ⟨b7, 2, none⟩)) (by kernel_rfl) ?_ ?_
        · go_simp
        simp only [Act.put, List.getElem_toArray, List.getElem_cons_zero, List.getElem_cons_succ, List.setIfInBounds_toArray, List.set_cons_zero, List.set_cons_succ]
        refine Sx.take (v := .int .u32 (a1 : Int)) (by kernel_rfl) ?_ ?_
        · have p_ := y2; go_simp
        simp only [Act.put, List.getElem_toArray, List.getElem_cons_zero, List.getElem_cons_succ, List.setIfInBounds_toArray, List.set_cons_zero, List.set_cons_succ]
        refine Sx.take (v := .int .u32 (A1Q : Int)) (by kernel_rfl) ?_ ?_
        · exact Sx.quo rfl rfl rfl (by decide) HJ.out.2.2.2.1
        simp only [Act.put, List.getElem_toArray, List.getElem_cons_zero, List.getElem_cons_succ, List.setIfInBounds_toArray, List.set_cons_zero, List.set_cons_succ]
        refine Sx.take (v := .bool true) (by kernel_rfl) ?_ ?_
        · exact Sx.ltI rfl rfl rfl HJ.out.2.2.2.2.1
        simp only [Act.put, List.getElem_toArray, List.getElem_cons_zero, List.getElem_cons_succ, List.setIfInBounds_toArray, List.set_cons_zero, List.set_cons_succ]
        refine Sx.take (v := .bool true) (by kernel_rfl) ?_ ?_
        · exact Sx.mv rfl rfl
        simp only [Act.put, List.getElem_toArray, List.getElem_cons_zero, List.getElem_cons_succ, List.setIfInBounds_toArray, List.set_cons_zero, List.set_cons_succ]
        refine Sx.take (v := .pointer (some ⟨b8, 3, none⟩)) (by kernel_rfl) ?_ ?_
        · go_simp
        simp only [Act.put, List.getElem_toArray, List.getElem_cons_zero, List.getElem_cons_succ, List.setIfInBounds_toArray, List.set_cons_zero, List.set_cons_succ]
        refine Sx.take (v := .int .u32 (s2 : Int)) (by kernel_rfl) ?_ ?_
        · have p_ := z3; go_simp
        simp only [Act.put, List.getElem_toArray, List.getElem_cons_zero, List.getElem_cons_succ, List.setIfInBounds_toArray, List.set_cons_zero, List.set_cons_succ]
        refine Sx.take (v := .int .u32 ((0 : Nat) : Int)) (by kernel_rfl) ?_ ?_
        · exact Sx.rem rfl rfl rfl (by decide) HJ.out.2.2.2.2.2.1
        simp only [Act.put, List.getElem_toArray, List.getElem_cons_zero, List.getElem_cons_succ, List.setIfInBounds_toArray, List.set_cons_zero, List.set_cons_succ]
        refine Sx.take (v := .bool true) (by kernel_rfl) ?_ ?_
        · exact Sx.eqI rfl rfl rfl rfl
        simp only [Act.put, List.getElem_toArray, List.getElem_cons_zero, List.getElem_cons_succ, List.setIfInBounds_toArray, List.set_cons_zero, List.set_cons_succ]
        refine Sx.take (v := .bool true) (by kernel_rfl) ?_ ?_
        · exact Sx.pickT rfl rfl rfl
        simp only [Act.put, List.getElem_toArray, List.getElem_cons_zero, List.getElem_cons_succ, List.setIfInBounds_toArray, List.set_cons_zero, List.set_cons_succ]
        refine Sx.take (v := .bool true) (by kernel_rfl) ?_ ?_
        · exact Sx.mv rfl rfl
        simp only [Act.put, List.getElem_toArray, List.getElem_cons_zero, List.getElem_cons_succ, List.setIfInBounds_toArray, List.set_cons_zero, List.set_cons_succ]
        refine Sx.take (v := .pointer (some ⟨b8, 2, none⟩)) (by kernel_rfl) ?_ ?_
        · go_simp
        simp only [Act.put, List.getElem_toArray, List.getElem_cons_zero, List.getElem_cons_succ, List.setIfInBounds_toArray, List.set_cons_zero, List.set_cons_succ]
        refine Sx.take (v := .int .u32 (a2 : Int)) (by kernel_rfl) ?_ ?_
        · have p_ := z2; go_simp
        simp only [Act.put, List.getElem_toArray, List.getElem_cons_zero, List.getElem_cons_succ, List.setIfInBounds_toArray, List.set_cons_zero, List.set_cons_succ]
        refine Sx.take (v := .pointer (some ⟨b6, 2, none⟩)) (by kernel_rfl) ?_ ?_
        · go_simp
        simp only [Act.put, List.getElem_toArray, List.getElem_cons_zero, List.getElem_cons_succ, List.setIfInBounds_toArray, List.set_cons_zero, List.set_cons_succ]
        refine Sx.take (v := .int .u32 (a0 : Int)) (by kernel_rfl) ?_ ?_
        · have p_ := x2; go_simp
        simp only [Act.put, List.getElem_toArray, List.getElem_cons_zero, List.getElem_cons_succ, List.setIfInBounds_toArray, List.set_cons_zero, List.set_cons_succ]
        refine Sx.take (v := .bool true) (by kernel_rfl) ?_ ?_
        · exact Sx.geI rfl rfl rfl HJ.out.2.2.2.2.2.2.1
        simp only [Act.put, List.getElem_toArray, List.getElem_cons_zero, List.getElem_cons_succ, List.setIfInBounds_toArray, List.set_cons_zero, List.set_cons_succ]
        refine Sx.take (v := .bool true) (by kernel_rfl) ?_ ?_
        · exact Sx.pickT rfl rfl rfl
        simp only [Act.put, List.getElem_toArray, List.getElem_cons_zero, List.getElem_cons_succ, List.setIfInBounds_toArray, List.set_cons_zero, List.set_cons_succ]
        refine Sx.take (v := .bool true) (by kernel_rfl) ?_ ?_
        · exact Sx.mv rfl rfl
        simp only [Act.put, List.getElem_toArray, List.getElem_cons_zero, List.getElem_cons_succ, List.setIfInBounds_toArray, List.set_cons_zero, List.set_cons_succ]
        refine Sx.take (v := .pointer (some ⟨b8, 2, none⟩)) (by kernel_rfl) ?_ ?_
        · go_simp
        simp only [Act.put, List.getElem_toArray, List.getElem_cons_zero, List.getElem_cons_succ, List.setIfInBounds_toArray, List.set_cons_zero, List.set_cons_succ]
        refine Sx.take (v := .int .u32 (a2 : Int)) (by kernel_rfl) ?_ ?_
        · have p_ := z2; go_simp
        simp only [Act.put, List.getElem_toArray, List.getElem_cons_zero, List.getElem_cons_succ, List.setIfInBounds_toArray, List.set_cons_zero, List.set_cons_succ]
        refine Sx.take (v := .pointer (some ⟨b8, 3, none⟩)) (by kernel_rfl) ?_ ?_
        · go_simp
        simp only [Act.put, List.getElem_toArray, List.getElem_cons_zero, List.getElem_cons_succ, List.setIfInBounds_toArray, List.set_cons_zero, List.set_cons_succ]
        refine Sx.take (v := .int .u32 (s2 : Int)) (by kernel_rfl) ?_ ?_
        · have p_ := z3; go_simp
        simp only [Act.put, List.getElem_toArray, List.getElem_cons_zero, List.getElem_cons_succ, List.setIfInBounds_toArray, List.set_cons_zero, List.set_cons_succ]
        refine Sx.take (v := .int .u32 (A2S : Int)) (by kernel_rfl) ?_ ?_
        · exact Sx.add rfl rfl rfl HJ.out.2.2.2.2.2.2.2.1
        simp only [Act.put, List.getElem_toArray, List.getElem_cons_zero, List.getElem_cons_succ, List.setIfInBounds_toArray, List.set_cons_zero, List.set_cons_succ]
        refine Sx.take (v := .pointer (some ⟨b6, 2, none⟩)) (by kernel_rfl) ?_ ?_
        · go_simp
        simp only [Act.put, List.getElem_toArray, List.getElem_cons_zero, List.getElem_cons_succ, List.setIfInBounds_toArray, List.set_cons_zero, List.set_cons_succ]
        refine Sx.take (v := .int .u32 (a0 : Int)) (by kernel_rfl) ?_ ?_
        · have p_ := x2; go_simp
        simp only [Act.put, List.getElem_toArray, List.getElem_cons_zero, List.getElem_cons_succ, List.setIfInBounds_toArray, List.set_cons_zero, List.set_cons_succ]
        refine Sx.take (v := .pointer (some ⟨b6, 3, none⟩)) (by kernel_rfl) ?_ ?_
        · go_simp
        simp only [Act.put, List.getElem_toArray, List.getElem_cons_zero, List.getElem_cons_succ, List.setIfInBounds_toArray, List.set_cons_zero, List.set_cons_succ]
        refine Sx.take (v := .int .u32 (s0 : Int)) (by kernel_rfl) ?_ ?_
        · have p_ := x3; go_simp
        simp only [Act.put, List.getElem_toArray, List.getElem_cons_zero, List.getElem_cons_succ, List.setIfInBounds_toArray, List.set_cons_zero, List.set_cons_succ]
        refine Sx.take (v := .int .u32 (A0S : Int)) (by kernel_rfl) ?_ ?_
        · exact Sx.add rfl rfl rfl HJ.out.1
        simp only [Act.put, List.getElem_toArray, List.getElem_cons_zero, List.getElem_cons_succ, List.setIfInBounds_toArray, List.set_cons_zero, List.set_cons_succ]
        refine Sx.take (v := .bool true) (by kernel_rfl) ?_ ?_
        · exact Sx.leI rfl rfl rfl HJ.out.2.2.2.2.2.2.2.2
        simp only [Act.put, List.getElem_toArray, List.getElem_cons_zero, List.getElem_cons_succ, List.setIfInBounds_toArray, List.set_cons_zero, List.set_cons_succ]
        refine Sx.take (v := .bool true) (by kernel_rfl) ?_ ?_
        · exact Sx.pickT rfl rfl rfl
        simp only [Act.put, List.getElem_toArray, List.getElem_cons_zero, List.getElem_cons_succ, List.setIfInBounds_toArray, List.set_cons_zero, List.set_cons_succ]
        refine Sx.take (v := .bool true) (by kernel_rfl) ?_ ?_
        · exact Sx.mv rfl rfl
        simp only [Act.put, List.getElem_toArray, List.getElem_cons_zero, List.getElem_cons_succ, List.setIfInBounds_toArray, List.set_cons_zero, List.set_cons_succ]
        refine Sx.take (v := .int .i64 4) (by kernel_rfl) ?_ ?_
        · exact Sx.mv rfl rfl
        simp only [Act.put, List.getElem_toArray, List.getElem_cons_zero, List.getElem_cons_succ, List.setIfInBounds_toArray, List.set_cons_zero, List.set_cons_succ]
        refine Sx.take (v := .bool false) (by kernel_rfl) ?_ ?_
        · exact Sx.eqI rfl rfl rfl rfl
        simp only [Act.put, List.getElem_toArray, List.getElem_cons_zero, List.getElem_cons_succ, List.setIfInBounds_toArray, List.set_cons_zero, List.set_cons_succ]
        refine Sx.take (v := .bool false) (by kernel_rfl) ?_ ?_
        · exact Sx.mv rfl rfl
        simp only [Act.put, List.getElem_toArray, List.getElem_cons_zero, List.getElem_cons_succ, List.setIfInBounds_toArray, List.set_cons_zero, List.set_cons_succ]
        refine Sx.take (v := .pointer (some ⟨w7.heap.size, 2, none⟩)) (by kernel_rfl) ?_ ?_
        · go_simp
        simp only [Act.put, List.getElem_toArray, List.getElem_cons_zero, List.getElem_cons_succ, List.setIfInBounds_toArray, List.set_cons_zero, List.set_cons_succ]
        refine Sx.take (v := .slice (some ⟨vb, vo, none⟩) 4 vc) (by kernel_rfl) ?_ ?_
        · have p_ := p2; go_simp
        simp only [Act.put, List.getElem_toArray, List.getElem_cons_zero, List.getElem_cons_succ, List.setIfInBounds_toArray, List.set_cons_zero, List.set_cons_succ]
        refine Sx.take (v := .pointer (some ⟨vb, vo + 21, none⟩)) (by kernel_rfl) ?_ ?_
        · go_simp
        simp only [Act.put, List.getElem_toArray, List.getElem_cons_zero, List.getElem_cons_succ, List.setIfInBounds_toArray, List.set_cons_zero, List.set_cons_succ]
        refine Sx.take (v := .pointer (some ⟨vb, vo + 21, none⟩)) (by kernel_rfl) ?_ ?_
        · go_simp
        simp only [Act.put, List.getElem_toArray, List.getElem_cons_zero, List.getElem_cons_succ, List.setIfInBounds_toArray, List.set_cons_zero, List.set_cons_succ]
        refine Sx.take (v := .int .i64 3) (by kernel_rfl) ?_ ?_
        · have p_ := q0; go_simp
        simp only [Act.put, List.getElem_toArray, List.getElem_cons_zero, List.getElem_cons_succ, List.setIfInBounds_toArray, List.set_cons_zero, List.set_cons_succ]
        refine Sx.take (v := .bool true) (by kernel_rfl) ?_ ?_
        · exact Sx.eqI rfl rfl rfl rfl
        simp only [Act.put, List.getElem_toArray, List.getElem_cons_zero, List.getElem_cons_succ, List.setIfInBounds_toArray, List.set_cons_zero, List.set_cons_succ]
        refine Sx.take (v := .bool true) (by kernel_rfl) ?_ ?_
        · exact Sx.pickF rfl rfl rfl
        simp only [Act.put, List.getElem_toArray, List.getElem_cons_zero, List.getElem_cons_succ, List.setIfInBounds_toArray, List.set_cons_zero, List.set_cons_succ]
        refine Sx.take (v := .bool true) (by kernel_rfl) ?_ ?_
        · exact Sx.pickT rfl rfl rfl
        simp only [Act.put, List.getElem_toArray, List.getElem_cons_zero, List.getElem_cons_succ, List.setIfInBounds_toArray, List.set_cons_zero, List.set_cons_succ]
        refine Sx.take (v := .bool true) (by kernel_rfl) ?_ ?_
        · exact Sx.mv rfl rfl
        simp only [Act.put, List.getElem_toArray, List.getElem_cons_zero, List.getElem_cons_succ, List.setIfInBounds_toArray, List.set_cons_zero, List.set_cons_succ]
        refine BigFrame.wpList_want (by kernel_rfl) ?_
        intro K hK
        unfold Oper.wp
        simp [go_sem]
        refine (K8.out _).mono ?_
        rintro e w6 ⟨rfl, hb6⟩
        have HB9 : Hid (Below w.heap.size w w6) := below_tr HWC.out hb6
        refine hK _ _ ?_
        try simp only [Act.put, List.getElem_toArray, List.getElem_cons_zero, List.getElem_cons_succ, List.setIfInBounds_toArray, List.set_cons_zero, List.set_cons_succ]
        refine Sx.take (v := .bool true) (by kernel_rfl) ?_ ?_
        · exact Sx.pickT rfl rfl rfl
        simp only [Act.put, List.getElem_toArray, List.getElem_cons_zero, List.getElem_cons_succ, List.setIfInBounds_toArray, List.set_cons_zero, List.set_cons_succ]
        refine Sx.take (v := .bool true) (by kernel_rfl) ?_ ?_
        · exact Sx.asn rfl rfl
        simp only [Act.put, List.getElem_toArray, List.getElem_cons_zero, List.getElem_cons_succ, List.setIfInBounds_toArray, List.set_cons_zero, List.set_cons_succ]
        refine wpList_nil ?_
        go_wp2
        go_ret
        exact ⟨rfl, HB9.out⟩
end Go.Proofs.YtgdflobcbhnimaaGreat
