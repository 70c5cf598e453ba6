/- What is proved here: a library's table of places stands ahead of its data. -/
import Derived.Test.YtgdflobcbhnimaaGreatPzq
namespace Go.Proofs.YtgdflobcbhnimaaGreat
open Go.RowKit Go.Maps
set_option linter.unusedVariables false
set_option linter.unusedSimpArgs false
set_option maxRecDepth 100000
set_option maxHeartbeats 4000000 in
theorem places_walk (l : Lb) (q : Lv) (w : World) (hv : LvIs l q w) (hbd : l.Bd) : Calls Tryz.prog 6 #[l.val q] w fun e w' => e = .returned (.bool true) ∧ Below w.heap.size w w' := by
  obtain ⟨W1, hW1, b1, n1, s1⟩ := box14 l q w
  have H1 : Hid (Below w.heap.size w W1) := b1
  have HLV : Hid (∀ w', Below w.heap.size w w' → LvIs l q w') := fun w' h => hv.keep h
  have K8 : Hid (∀ w', Calls Tryz.prog 8 #[] w' fun e w'' => e = .returned (.bool true) ∧ Below w'.heap.size w' w'') := fun w' => awake8 w'
  have K7 : Hid (∀ w', Below w.heap.size w w' → Calls Tryz.prog 7 #[l.val q] w' fun e w'' => ToldIf True w' e w'') := fun w' h => few7 l q w' (hv.keep h)
  have K10 : Hid (∀ w', Below w.heap.size w w' → Calls Tryz.prog 10 #[l.val q] w' fun e w'' => ToldIf (FitP l) w' e w'') := fun w' h => rfit10 l q w' (hv.keep h) hbd
  have K13 : Hid (∀ w', Below w.heap.size w w' → FitP l → Calls Tryz.prog 13 #[l.val q] w' fun e w'' => e = .returned (.string ⟨l.file.toArray⟩) ∧ Below w'.heap.size w' w'') := fun w' h hf => file13 l q w' hf (hv.keep h) hbd (fun w2 h2 => fit9 l q w2 hf ((hv.keep h).keep h2))
  have K11 : Hid (∀ w', Below w.heap.size w w' → FitP l → Calls Tryz.prog 11 #[l.val q] w' fun e w'' => e = .returned l.place.val ∧ Below w'.heap.size w' w'') := fun w' h hf => place11 l q w' hf (hv.keep h) hbd (fun w2 h2 => fit9 l q w2 hf ((hv.keep h).keep h2))
  obtain ⟨PW, hPW⟩ : ∃ z, z = l.lay.plW := ⟨_, rfl⟩
  obtain ⟨LS, hLS⟩ : ∃ z, z = l.lay.lastS := ⟨_, rfl⟩
  have HPL : Hid (FitP l → PW.length = 2 + l.locals.length + l.global.toNat ∧ LS.length = l.global.toNat ∧ l.file.length ≤ 1000000 ∧ l.lay.at_ 8 + 4 * PW.length ≤ l.file.length ∧ l.place.got = l.base + l.lay.at_ 8 + 4096 ∧ l.lay.at_ 8 ≤ 65536 ∧ l.base ≤ 1073741824 ∧ l.place.code = l.lay.ad 7 ∧ l.place.data = l.lay.ad 9 ∧ l.lay.ad 7 ≤ 1073811456 ∧ l.lay.ad 9 ≤ 1073811456 ∧ l.locals.length ≤ 30 ∧ l.syms.length ≤ 60 ∧ l.global = ((l.global.toNat : Nat) : Int) ∧ l.global.toNat ≤ l.syms.length ∧ LS = l.syms.drop (l.syms.length - l.global.toNat)) := fun hf => by
    have h1 := file_len hf
    have h2 := pl_len hf
    have h3 := sz_le hf 9
    have h4 := at_le hf 9
    have e8 := lay_at (l := l) 8 (by decide)
    have z8 : l.sz 8 = 4 * (2 + l.locals.length + l.global.toNat) := part_len (zero_ok hf) 8
    have m8 : atN l.sz 8 + l.sz 8 ≤ atN l.sz 9 := at_mono l.sz 8
    have g0 := hf.g0
    have g1 := hf.g1
    have hls : LS = l.syms.drop (l.syms.length - l.global.toNat) := by rw [hLS]; rfl
    rw [← hPW] at h2
    exact ⟨h2, by rw [hls, List.length_drop]; omega, by omega, by omega, rfl, (lay_ok hf).a 8, hf.b1, rfl, rfl, (lay_ok hf).ad_le 7, (lay_ok hf).ad_le 9, hf.lo, hf.y0, by omega, by omega, hls⟩
  obtain ⟨na, nc, hvn, _⟩ := id hv.n
  obtain ⟨ya, yc, hvy, y1, y2, y3, hy4⟩ := id hv.s
  obtain ⟨ra, rc, hvr, _⟩ := id hv.r
  obtain ⟨la, lc, hvl, l1, l2, l3, hl4⟩ := id hv.l
  have HLO : Hid (∀ i (h : i < l.locals.length), ∃ b o, la = some ⟨b, o, none⟩ ∧ w.cell? ⟨b, o + i, none⟩ = some (.int .u32 (l.locals[i] : Int))) := hl4
  have HSY : Hid (∀ i (h : i < l.syms.length), ∃ b o, ya = some ⟨b, o, none⟩ ∧ At5 w b (o + i * 5) l.syms[i]) := hy4
  have HSC : Hid ((ya = none → yc = 0) ∧ l.syms.length ≤ yc ∧ yc ≤ 9223372036854775807 ∧ ∀ s ∈ l.syms, s.Bd) := ⟨y3, y1, y2, hbd.y⟩
  have hN : Hid (∀ w', Below W1.heap.size W1 w' → w'.heap[w.heap.size]? = some (.cells (l.cells q).toArray 28 (0, 0))) := fun w' h => n1.keep h
  unfold Lb.val at K7 K10 K13 K11 ⊢
  unfold Lb.cells at K7 K10 K13 K11 hN hW1 ⊢
  unfold Pl.val at K11
  rw [hvn, hvy, hvr, hvl] at K7 K10 K13 K11 hN hW1 ⊢
  clear hvn hvy hvr hvl hv y1 y2 y3 hy4 l1 l2 l3 hl4
  obtain ⟨C, hC⟩ : ∃ B : ByteArray, B = ⟨l.code.toArray⟩ := ⟨_, rfl⟩
  simp only [← hC] at K7 K10 K13 K11 hN hW1 ⊢
  obtain ⟨D, hD⟩ : ∃ B : ByteArray, B = ⟨l.data.toArray⟩ := ⟨_, rfl⟩
  simp only [← hD] at K7 K10 K13 K11 hN hW1 ⊢
  obtain ⟨SN, hSN⟩ : ∃ B : ByteArray, B = ⟨l.soname.toArray⟩ := ⟨_, rfl⟩
  simp only [← hSN] at K7 K10 K13 K11 hN hW1 ⊢
  obtain ⟨IP, hIP⟩ : ∃ B : ByteArray, B = ⟨l.interp.toArray⟩ := ⟨_, rfl⟩
  simp only [← hIP] at K7 K10 K13 K11 hN hW1 ⊢
  obtain ⟨FB, hFB⟩ : ∃ B : ByteArray, B = ⟨l.file.toArray⟩ := ⟨_, rfl⟩
  simp only [← hFB] at K13
  have HFB : Hid (FB.toList = l.file ∧ FB.size = l.file.length) := by
    have e : FB.toList = l.file := by rw [hFB, bal]
    exact ⟨e, by rw [← bt_len, e]⟩
  obtain ⟨A8, hA8⟩ : ∃ z, z = l.lay.at_ 8 := ⟨_, rfl⟩
  have K16 : Hid (FitP l → ∀ k v ps pa w', k < PW.length → PW[k]? = some v → w'.cell? ⟨ps, 0, none⟩ = some (.string FB) → w'.cell? ⟨pa, 0, none⟩ = some (.int .i64 (A8 : Int)) → Calls Tryz.prog 16 #[.int .i64 (k : Int), .pointer (some ⟨ps, 0, none⟩), .pointer (some ⟨pa, 0, none⟩)] w' fun e w'' => e = .returned (.int .u32 (v : Int)) ∧ Below w'.heap.size w' w'') := fun hf k v ps pa w' hk hkv h1 h2 => by
    have hp := HPL.out hf
    have hkk : PW[k] = v := by rw [List.getElem?_eq_getElem hk] at hkv; injection hkv
    have hw := file_word hf k (by rw [← hPW]; exact hk)
    have hlt : v < 4294967296 := pl_lt l.lay v (by rw [← hkk, ← hPW]; exact List.getElem_mem hk)
    have hb := word_be HFB.out.1 (A8 + 4 * k) v (by rw [hA8, hw]; congr 1; rw [← hkk]; simp only [hPW]) hlt
    refine (word16 FB A8 k v ps pa w' h1 h2 (by rw [HFB.out.2, hA8]; omega) (by rw [HFB.out.2]; omega) hb hlt).mono ?_
    rintro e w'' ⟨h3, rfl⟩
    exact ⟨h3, Below.refl _ _⟩
  have HV : Hid (FitP l → PW[0]? = some 0 ∧ PW[1]? = some 2147483648 ∧ (∀ i (h : i < l.locals.length), PW[2 + i]? = some ((l.place.code + l.locals[i]) % 4294967296)) ∧ (∀ i (h : i < LS.length), PW[2 + l.locals.length + i]? = some (if LS[i].part = 1 then (l.place.code + LS[i].value) % 4294967296 else if LS[i].part = 2 then (l.place.data + LS[i].value) % 4294967296 else 0))) := fun hf => by
    have hp := HPL.out hf
    refine ⟨?_, ?_, fun i hi => ?_, fun i hi => ?_⟩
    · rw [List.getElem?_eq_getElem (by omega)]; simp only [hPW]; rfl
    · rw [List.getElem?_eq_getElem (by omega)]; simp only [hPW]; rfl
    · rw [List.getElem?_eq_getElem (by omega)]
      simp only [hPW]
      rw [pl_loc hf i hi]
      rfl
    · rw [List.getElem?_eq_getElem (by omega)]
      simp only [hPW, hLS]
      rw [pl_sym hf i (by rw [← hLS]; exact hi)]
      rfl
  clear hC hD hSN hIP hFB n1 b1 s1 hPW hLS hbd
  obtain ⟨FP, hFP⟩ : ∃ P : Prop, P = FitP l := ⟨_, rfl⟩
  rw [← hFP] at K10 K13 K11 K16 HPL HV
  clear hFP HLV
  obtain ⟨BA, hBA⟩ : ∃ z, z = l.base := ⟨_, rfl⟩
  obtain ⟨CO, hCO⟩ : ∃ z, z = l.place.code := ⟨_, rfl⟩
  obtain ⟨GT, hGT⟩ : ∃ z, z = l.place.got := ⟨_, rfl⟩
  obtain ⟨DA, hDA⟩ : ∃ z, z = l.place.data := ⟨_, rfl⟩
  obtain ⟨FI, hFI⟩ : ∃ z, z = l.place.fin := ⟨_, rfl⟩
  obtain ⟨GL, hGL⟩ : ∃ z, z = l.global.toNat := ⟨_, rfl⟩
  obtain ⟨GG, hGG⟩ : ∃ z, z = l.global := ⟨_, rfl⟩
  obtain ⟨YY, hYY⟩ : ∃ z, z = l.syms.length := ⟨_, rfl⟩
  obtain ⟨LL, hLL⟩ : ∃ z, z = l.locals.length := ⟨_, rfl⟩
  obtain ⟨LO, hLO⟩ : ∃ z, z = l.locals := ⟨_, rfl⟩
  obtain ⟨SY, hSY⟩ : ∃ z, z = l.syms := ⟨_, rfl⟩
  have HNUM : Hid (FP → PW.length = 2 + LL + GL ∧ LS.length = GL ∧ FB.size ≤ 1000000 ∧ A8 + 4 * (2 + LL + GL) ≤ FB.size ∧ GT = BA + A8 + 4096 ∧ A8 ≤ 65536 ∧ BA ≤ 1073741824 ∧ CO ≤ 1073811456 ∧ DA ≤ 1073811456 ∧ LL ≤ 30 ∧ YY ≤ 60 ∧ GG = ((GL : Nat) : Int) ∧ GL ≤ YY ∧ LS = SY.drop (YY - GL) ∧ LO.length = LL ∧ SY.length = YY) := fun hf => by
    obtain ⟨h1, h2, h3, h4, h5, h6, h7, h8, h9, h10, h11, h12, h13, h14, h15, h16⟩ := HPL.out hf
    have hz := HFB.out.2
    rw [hLO, hSY]
    rw [h1] at h4
    refine ⟨by omega, by omega, by omega, by omega, by omega, by omega, by omega, by omega, by omega, by omega, by omega, by omega, by omega, by rw [hYY, hGL]; exact h16, by omega, by omega⟩
  have HV2 : Hid (FP → PW[0]? = some 0 ∧ PW[1]? = some 2147483648 ∧ (∀ i (h : i < LO.length), PW[2 + i]? = some ((CO + LO[i]) % 4294967296)) ∧ (∀ i (h : i < LS.length), PW[2 + LL + i]? = some (if LS[i].part = 1 then (CO + LS[i].value) % 4294967296 else if LS[i].part = 2 then (DA + LS[i].value) % 4294967296 else 0))) := by
    rw [hCO, hDA, hLL]; subst hLO; exact HV.out
  have HLO2 : Hid (∀ i (h : i < LO.length), ∃ b o, la = some ⟨b, o, none⟩ ∧ w.cell? ⟨b, o + i, none⟩ = some (.int .u32 (LO[i] : Int))) := by subst hLO; exact HLO.out
  have HSY2 : Hid (∀ i (h : i < SY.length), ∃ b o, ya = some ⟨b, o, none⟩ ∧ At5 w b (o + i * 5) SY[i]) := by subst hSY; exact HSY.out
  have HSC2 : Hid ((ya = none → yc = 0) ∧ YY ≤ yc ∧ yc ≤ 9223372036854775807 ∧ ∀ s ∈ SY, s.Bd) := by rw [hYY, hSY]; exact HSC.out
  simp only [← hBA, ← hCO, ← hGT, ← hDA, ← hFI, ← hGG, ← hYY, ← hLL] at K7 K10 K13 K11 hN hW1 ⊢
  clear hBA hCO hGT hDA hFI hA8 hGL hGG hYY hLL hLO hSY HPL HFB HV HLO HSY HSC
  generalize l.shared = SH at K7 K10 K13 K11 hN hW1 ⊢
  generalize l.entry = EN at K7 K10 K13 K11 hN hW1 ⊢
  generalize l.bss = BS at K7 K10 K13 K11 hN hW1 ⊢
  generalize l.needed.length = NN at K7 K10 K13 K11 hN hW1 ⊢
  generalize l.rels.length = RR at K7 K10 K13 K11 hN hW1 ⊢
  generalize l.init = NI at K7 K10 K13 K11 hN hW1 ⊢
  have HN : Hid (∀ w', Below W1.heap.size W1 w' → w'.heap[w.heap.size]? = some (.cells #[.bool SH, .int .u32 (BA : Int), .int .u32 (EN : Int), .string C, .string D, .int .u32 (BS : Int), .slice na NN nc, .string SN, .string IP, .slice ya YY yc, .slice ra RR rc, .slice la LL lc, .int .i64 GG, .int .u32 (NI : Int)] 28 (0, 0))) := hN.out
  clear hN
  have nn := HN.out W1 (Below.refl _ _)
  have c0 : W1.cell? ⟨w.heap.size, 0, none⟩ = some (.bool SH) := cell14 nn 0 rfl
  have c1 : W1.cell? ⟨w.heap.size, 1, none⟩ = some (.int .u32 (BA : Int)) := cell14 nn 1 rfl
  have c2 : W1.cell? ⟨w.heap.size, 2, none⟩ = some (.int .u32 (EN : Int)) := cell14 nn 2 rfl
  have c3 : W1.cell? ⟨w.heap.size, 3, none⟩ = some (.string C) := cell14 nn 3 rfl
  have c4 : W1.cell? ⟨w.heap.size, 4, none⟩ = some (.string D) := cell14 nn 4 rfl
  have c5 : W1.cell? ⟨w.heap.size, 5, none⟩ = some (.int .u32 (BS : Int)) := cell14 nn 5 rfl
  have c6 : W1.cell? ⟨w.heap.size, 6, none⟩ = some (.slice na NN nc) := cell14 nn 6 rfl
  have c7 : W1.cell? ⟨w.heap.size, 7, none⟩ = some (.string SN) := cell14 nn 7 rfl
  have c8 : W1.cell? ⟨w.heap.size, 8, none⟩ = some (.string IP) := cell14 nn 8 rfl
  have c9 : W1.cell? ⟨w.heap.size, 9, none⟩ = some (.slice ya YY yc) := cell14 nn 9 rfl
  have c10 : W1.cell? ⟨w.heap.size, 10, none⟩ = some (.slice ra RR rc) := cell14 nn 10 rfl
  have c11 : W1.cell? ⟨w.heap.size, 11, none⟩ = some (.slice la LL lc) := cell14 nn 11 rfl
  have c12 : W1.cell? ⟨w.heap.size, 12, none⟩ = some (.int .i64 GG) := cell14 nn 12 rfl
  have c13 : W1.cell? ⟨w.heap.size, 13, none⟩ = some (.int .u32 (NI : Int)) := cell14 nn 13 rfl
  clear nn
  go_enter Tryz.func6, Tryz.ntmps6
  go_wp2_with fail
  refine (K7.out W1 H1.out).mono ?_
  rintro e w2 ⟨f7, rfl, hb2, _⟩
  have H2 : Hid (Below W1.heap.size W1 w2) := hb2
  have HW2 : Hid (Below w.heap.size w w2) := below_tr H1.out hb2
  clear c0 c1 c2 c3 c4 c5 c6 c7 c8 c9 c10 c11 c12 c13
  clear hb2 hW1
  have nn := HN.out w2 H2.out
  have c0 : w2.cell? ⟨w.heap.size, 0, none⟩ = some (.bool SH) := cell14 nn 0 rfl
  have c1 : w2.cell? ⟨w.heap.size, 1, none⟩ = some (.int .u32 (BA : Int)) := cell14 nn 1 rfl
  have c2 : w2.cell? ⟨w.heap.size, 2, none⟩ = some (.int .u32 (EN : Int)) := cell14 nn 2 rfl
  have c3 : w2.cell? ⟨w.heap.size, 3, none⟩ = some (.string C) := cell14 nn 3 rfl
  have c4 : w2.cell? ⟨w.heap.size, 4, none⟩ = some (.string D) := cell14 nn 4 rfl
  have c5 : w2.cell? ⟨w.heap.size, 5, none⟩ = some (.int .u32 (BS : Int)) := cell14 nn 5 rfl
  have c6 : w2.cell? ⟨w.heap.size, 6, none⟩ = some (.slice na NN nc) := cell14 nn 6 rfl
  have c7 : w2.cell? ⟨w.heap.size, 7, none⟩ = some (.string SN) := cell14 nn 7 rfl
  have c8 : w2.cell? ⟨w.heap.size, 8, none⟩ = some (.string IP) := cell14 nn 8 rfl
  have c9 : w2.cell? ⟨w.heap.size, 9, none⟩ = some (.slice ya YY yc) := cell14 nn 9 rfl
  have c10 : w2.cell? ⟨w.heap.size, 10, none⟩ = some (.slice ra RR rc) := cell14 nn 10 rfl
  have c11 : w2.cell? ⟨w.heap.size, 11, none⟩ = some (.slice la LL lc) := cell14 nn 11 rfl
  have c12 : w2.cell? ⟨w.heap.size, 12, none⟩ = some (.int .i64 GG) := cell14 nn 12 rfl
  have c13 : w2.cell? ⟨w.heap.size, 13, none⟩ = some (.int .u32 (NI : Int)) := cell14 nn 13 rfl
  clear nn
  cases f7 with
  | false =>
    go_wp2_with fail
    refine (K8.out w2).mono ?_
    rintro e w3 ⟨rfl, hb3⟩
    go_wp2
    go_ret
    exact ⟨rfl, below_tr HW2.out hb3⟩
  | true =>
    go_wp2_with fail
    refine (K10.out w2 HW2.out).mono ?_
    rintro e w3 ⟨f10, rfl, hb3, hfit⟩
    have H3 : Hid (Below W1.heap.size W1 w3) := below_tr H2.out hb3
    have HW3 : Hid (Below w.heap.size w w3) := below_tr HW2.out hb3
    clear c0 c1 c2 c3 c4 c5 c6 c7 c8 c9 c10 c11 c12 c13
    clear hb3
    have nn := HN.out w3 H3.out
    have c0 : w3.cell? ⟨w.heap.size, 0, none⟩ = some (.bool SH) := cell14 nn 0 rfl
    have c1 : w3.cell? ⟨w.heap.size, 1, none⟩ = some (.int .u32 (BA : Int)) := cell14 nn 1 rfl
    have c2 : w3.cell? ⟨w.heap.size, 2, none⟩ = some (.int .u32 (EN : Int)) := cell14 nn 2 rfl
    have c3 : w3.cell? ⟨w.heap.size, 3, none⟩ = some (.string C) := cell14 nn 3 rfl
    have c4 : w3.cell? ⟨w.heap.size, 4, none⟩ = some (.string D) := cell14 nn 4 rfl
    have c5 : w3.cell? ⟨w.heap.size, 5, none⟩ = some (.int .u32 (BS : Int)) := cell14 nn 5 rfl
    have c6 : w3.cell? ⟨w.heap.size, 6, none⟩ = some (.slice na NN nc) := cell14 nn 6 rfl
    have c7 : w3.cell? ⟨w.heap.size, 7, none⟩ = some (.string SN) := cell14 nn 7 rfl
    have c8 : w3.cell? ⟨w.heap.size, 8, none⟩ = some (.string IP) := cell14 nn 8 rfl
    have c9 : w3.cell? ⟨w.heap.size, 9, none⟩ = some (.slice ya YY yc) := cell14 nn 9 rfl
    have c10 : w3.cell? ⟨w.heap.size, 10, none⟩ = some (.slice ra RR rc) := cell14 nn 10 rfl
    have c11 : w3.cell? ⟨w.heap.size, 11, none⟩ = some (.slice la LL lc) := cell14 nn 11 rfl
    have c12 : w3.cell? ⟨w.heap.size, 12, none⟩ = some (.int .i64 GG) := cell14 nn 12 rfl
    have c13 : w3.cell? ⟨w.heap.size, 13, none⟩ = some (.int .u32 (NI : Int)) := cell14 nn 13 rfl
    clear nn
    cases f10 with
    | false =>
      go_wp2_with fail
      refine (K8.out w3).mono ?_
      rintro e w4 ⟨rfl, hb4⟩
      go_wp2
      go_ret
      exact ⟨rfl, below_tr HW3.out hb4⟩
    | true =>
      have hf : FP := hfit rfl
      have HV3 := HV2.out hf
      have K16f := K16.out hf
      obtain ⟨q1, q2, q3, q4, q5, q6, q7, q8, q9, q10, q11, q12, q13, q14, q15, q16⟩ := HNUM.out hf
      have HQ : Hid (PW.length = 2 + LL + GL ∧ LS.length = GL ∧ LL ≤ 30 ∧ YY ≤ 60 ∧ GL ≤ YY ∧ LS = SY.drop (YY - GL) ∧ LO.length = LL ∧ SY.length = YY ∧ CO ≤ 1073811456 ∧ DA ≤ 1073811456) := ⟨q1, q2, q10, q11, q13, q14, q15, q16, q8, q9⟩
      have K16g : Hid (∀ k v ps pa w', k < PW.length → PW[k]? = some v → w'.cell? ⟨ps, 0, none⟩ = some (.string FB) → w'.cell? ⟨pa, 0, none⟩ = some (.int .i64 (A8 : Int)) → Calls Tryz.prog 16 #[.int .i64 (k : Int), .pointer (some ⟨ps, 0, none⟩), .pointer (some ⟨pa, 0, none⟩)] w' fun e w'' => e = .returned (.int .u32 (v : Int)) ∧ Below w'.heap.size w' w'') := K16f
      have HVV : Hid (PW[0]? = some 0 ∧ PW[1]? = some 2147483648 ∧ (∀ i (h : i < LO.length), PW[2 + i]? = some ((CO + LO[i]) % 4294967296)) ∧ (∀ i (h : i < LS.length), PW[2 + LL + i]? = some (if LS[i].part = 1 then (CO + LS[i].value) % 4294967296 else if LS[i].part = 2 then (DA + LS[i].value) % 4294967296 else 0))) := HV3
      obtain ⟨A84, hA84⟩ : ∃ z, z = A8 + 4096 := ⟨_, rfl⟩
      obtain ⟨A88, hA88⟩ : ∃ z, z = A8 + 8 := ⟨_, rfl⟩
      obtain ⟨LG, hLG⟩ : ∃ z, z = LL + GL := ⟨_, rfl⟩
      obtain ⟨LG4, hLG4⟩ : ∃ z, z = 4 * LG := ⟨_, rfl⟩
      obtain ⟨AE, hAE⟩ : ∃ z, z = A88 + LG4 := ⟨_, rfl⟩
      have HJ : Hid (IntKind.u32.wrap ((GT : Int) - (BA : Int)) = (A84 : Int) ∧ IntKind.i64.wrap (A84 : Int) = (A84 : Int) ∧ IntKind.i64.wrap ((A84 : Int) - 4096) = (A8 : Int) ∧ decide ((A8 : Int) < 0) = false ∧ IntKind.i64.wrap ((A8 : Int) + 8) = (A88 : Int) ∧ IntKind.i64.wrap ((LL : Int) + (GL : Int)) = (LG : Int) ∧ IntKind.i64.wrap (4 * (LG : Int)) = (LG4 : Int) ∧ IntKind.i64.wrap ((A88 : Int) + (LG4 : Int)) = (AE : Int) ∧ decide ((FB.size : Int) < (AE : Int)) = false) :=
        ⟨Sx.w32 (by omega) (by omega), Sx.w64 rfl (by omega), Sx.w64 (by omega) (by omega), decide_eq_false (by omega), Sx.w64 (by omega) (by omega), Sx.w64 (by omega) (by omega), Sx.w64 (by omega) (by omega), Sx.w64 (by omega) (by omega), decide_eq_false (by omega)⟩
      subst q12
      clear q1 q2 q3 q4 q5 q6 q7 q8 q9 q10 q11 q13 q14 q15 q16 hA84 hA88 hLG hLG4 hAE HV2 K16 HNUM hfit HV3 K16f
      have K13f : Hid (∀ w', Below w.heap.size w w' → _) := fun w' h => K13.out w' h hf
      have K11f : Hid (∀ w', Below w.heap.size w w' → _) := fun w' h => K11.out w' h hf
      clear K7 K10 K13 K11 hf
      go_upto_region 3 with fail
      refine wp_region_cut (R := Ext) [⟨20, fun v _ => v = .agg #[.bool SH, .int .u32 (BA : Int), .int .u32 (EN : Int), .string C, .string D, .int .u32 (BS : Int), .slice na NN nc, .string SN, .string IP, .slice ya YY yc, .slice ra RR rc, .slice la LL lc, .int .i64 (GL : Int), .int .u32 (NI : Int)], fun _ _ _ _ h => h⟩, ⟨21, fun v _ => v = .string FB, fun _ _ _ _ h => h⟩, ⟨22, fun v _ => v = .agg #[.bool SH, .int .u32 (BA : Int), .int .u32 (EN : Int), .string C, .string D, .int .u32 (BS : Int), .slice na NN nc, .string SN, .string IP, .slice ya YY yc, .slice ra RR rc, .slice la LL lc, .int .i64 (GL : Int), .int .u32 (NI : Int)], fun _ _ _ _ h => h⟩, ⟨23, fun v _ => v = .agg #[.int .u32 (CO : Int), .int .u32 (GT : Int), .int .u32 (DA : Int), .int .u32 (FI : Int)], fun _ _ _ _ h => h⟩, ⟨3, fun v w' => ∃ b, v = .pointer (some ⟨b, 0, none⟩) ∧ w'.heap[b]? = some (.cells #[.string ⟨#[]⟩] 9 (0, 0)) ∧ w3.heap.size ≤ b, fun _ _ _ hb h => by obtain ⟨b, h1, h2, h3⟩ := h; exact ⟨b, h1, (hb.block b (Array.getElem?_eq_some_iff.1 h2).1).trans h2, h3⟩⟩, ⟨4, fun v w' => ∃ b, v = .pointer (some ⟨b, 0, none⟩) ∧ w'.heap[b]? = some (.cells #[.int .u32 0, .int .u32 0, .int .u32 0, .int .u32 0] 32 (0, 0)) ∧ w3.heap.size ≤ b, fun _ _ _ hb h => by obtain ⟨b, h1, h2, h3⟩ := h; exact ⟨b, h1, (hb.block b (Array.getElem?_eq_some_iff.1 h2).1).trans h2, h3⟩⟩] _ 6 (by kernel_rfl) rfl (by kernel_rfl) (by decide) (by kernel_rfl) (Below.drew (Below.refl _ _)) (fun _ _ _ h1 h2 => below_tr h1 h2) (fun QQ => ⟨?_, ?_, ?_, ?_, ?_, ?_, trivial⟩) (fun f wy hR hf A hA => ?_)
      · intro A wx hR hout hdep K hK
        have h1 : A.tmps[1]?.getD undef = .pointer (some ⟨w.heap.size, 0, none⟩) := hout 1 (by kernel_rfl)
        refine if_yes (by kernel_rfl) ?_
        have c0 := keep_cell hR c0
        have c1 := keep_cell hR c1
        have c10 := keep_cell hR c10
        have c11 := keep_cell hR c11
        have c12 := keep_cell hR c12
        have c13 := keep_cell hR c13
        have c2 := keep_cell hR c2
        have c3 := keep_cell hR c3
        have c4 := keep_cell hR c4
        have c5 := keep_cell hR c5
        have c6 := keep_cell hR c6
        have c7 := keep_cell hR c7
        have c8 := keep_cell hR c8
        have c9 := keep_cell hR c9
        simp [go_sem, h1, c0, c1, c10, c11, c12, c13, c2, c3, c4, c5, c6, c7, c8, c9]
        exact hK.out _ _ (Below.refl _ _) rfl
      · intro A wx hR hout hdep K hK
        have h20 : A.tmps[20]?.getD undef = .agg #[.bool SH, .int .u32 (BA : Int), .int .u32 (EN : Int), .string C, .string D, .int .u32 (BS : Int), .slice na NN nc, .string SN, .string IP, .slice ya YY yc, .slice ra RR rc, .slice la LL lc, .int .i64 (GL : Int), .int .u32 (NI : Int)] := hdep 20 (by kernel_rfl)
        refine if_yes (by kernel_rfl) ?_
        simp [go_sem, h20]
        refine (K13f.out wx (below_tr HW3.out hR)).mono ?_
        rintro e wG ⟨rfl, hbG⟩
        exact hK.out _ _ hbG rfl
      · intro A wx hR hout hdep K hK
        have h1 : A.tmps[1]?.getD undef = .pointer (some ⟨w.heap.size, 0, none⟩) := hout 1 (by kernel_rfl)
        refine if_yes (by kernel_rfl) ?_
        have c0 := keep_cell hR c0
        have c1 := keep_cell hR c1
        have c10 := keep_cell hR c10
        have c11 := keep_cell hR c11
        have c12 := keep_cell hR c12
        have c13 := keep_cell hR c13
        have c2 := keep_cell hR c2
        have c3 := keep_cell hR c3
        have c4 := keep_cell hR c4
        have c5 := keep_cell hR c5
        have c6 := keep_cell hR c6
        have c7 := keep_cell hR c7
        have c8 := keep_cell hR c8
        have c9 := keep_cell hR c9
        simp [go_sem, h1, c0, c1, c10, c11, c12, c13, c2, c3, c4, c5, c6, c7, c8, c9]
        exact hK.out _ _ (Below.refl _ _) rfl
      · intro A wx hR hout hdep K hK
        have h22 : A.tmps[22]?.getD undef = .agg #[.bool SH, .int .u32 (BA : Int), .int .u32 (EN : Int), .string C, .string D, .int .u32 (BS : Int), .slice na NN nc, .string SN, .string IP, .slice ya YY yc, .slice ra RR rc, .slice la LL lc, .int .i64 (GL : Int), .int .u32 (NI : Int)] := hdep 22 (by kernel_rfl)
        refine if_yes (by kernel_rfl) ?_
        simp [go_sem, h22]
        refine (K11f.out wx (below_tr HW3.out hR)).mono ?_
        rintro e wG ⟨rfl, hbG⟩
        exact hK.out _ _ hbG rfl
      · intro A wx hR hout hdep K hK
        refine if_yes (by kernel_rfl) ?_
        simp [go_sem]
        exact hK.out _ _ ((Below.refl _ _).alloc (Nat.le_refl _) _) ⟨_, rfl, new_heap wx _ _, hR.size⟩
      · intro A wx hR hout hdep K hK
        refine if_yes (by kernel_rfl) ?_
        simp [go_sem]
        exact hK.out _ _ ((Below.refl _ _).alloc (Nat.le_refl _) _) ⟨_, rfl, new_heap wx _ _, hR.size⟩
      have h20 : f 20 = .agg #[.bool SH, .int .u32 (BA : Int), .int .u32 (EN : Int), .string C, .string D, .int .u32 (BS : Int), .slice na NN nc, .string SN, .string IP, .slice ya YY yc, .slice ra RR rc, .slice la LL lc, .int .i64 (GL : Int), .int .u32 (NI : Int)] := hf 20 (by kernel_rfl)
      have h21 : f 21 = .string FB := hf 21 (by kernel_rfl)
      have h22 : f 22 = .agg #[.bool SH, .int .u32 (BA : Int), .int .u32 (EN : Int), .string C, .string D, .int .u32 (BS : Int), .slice na NN nc, .string SN, .string IP, .slice ya YY yc, .slice ra RR rc, .slice la LL lc, .int .i64 (GL : Int), .int .u32 (NI : Int)] := hf 22 (by kernel_rfl)
      have h23 : f 23 = .agg #[.int .u32 (CO : Int), .int .u32 (GT : Int), .int .u32 (DA : Int), .int .u32 (FI : Int)] := hf 23 (by kernel_rfl)
      have h3 := hf 3 (by kernel_rfl)
      have h4 := hf 4 (by kernel_rfl)
      obtain ⟨b3, e3, i3, g3⟩ := h3
      obtain ⟨b4, e4, i4, g4⟩ := h4
      simp only [putSl, List.take_succ_cons, List.take_zero, Act.put, List.setIfInBounds_toArray, List.set_cons_zero, List.set_cons_succ, h20, h21, h22, h23, e3, e4] at hA
      subst hA
      have ne34 : b3 ≠ b4 := by intro e; rw [e, i4] at i3; injection i3 with i3; injection i3 with _ i3; exact absurd i3 (by decide)
      have HWY : Hid (Below w3.heap.size w3 wy) := hR
      clear h20 h21 h22 h23 hf hR e3 e4
      have k3 := one_cell i3
      have f3 := one_free i3 0
      refine wpAny_ready (rs := [6]) (by kernel_rfl) (by decide) (AllReady.cons rfl ?_ AllReady.nil)
      intro K5 hK5
      refine if_yes (by kernel_rfl) ?_
      simp [go_sem, k3, f3]
      refine hK5 _ _ ?_
      clear hK5 K5
      obtain ⟨WA, hWA⟩ : ∃ z, z = wy.setCell ⟨b3, 0, none⟩ (.string FB) := ⟨_, rfl⟩
      rw [← hWA]
      have j3 : WA.heap[b3]? = some (.cells #[.string FB] 9 (0, 0)) := by rw [hWA]; exact set1_heap i3 _
      have j4 : WA.heap[b4]? = some (.cells #[.int .u32 0, .int .u32 0, .int .u32 0, .int .u32 0] 32 (0, 0)) := by rw [hWA]; exact (heap_setCell_other _ _ _ _ (Ne.symm ne34)).trans i4
      have bA : Below w3.heap.size w3 WA := by rw [hWA]; exact HWY.out.setCell g3 _
      obtain ⟨WB, hWB⟩ : ∃ z, z = WA.setRow b4 #[.int .u32 (CO : Int), .int .u32 (GT : Int), .int .u32 (DA : Int), .int .u32 (FI : Int)] := ⟨_, rfl⟩
      refine wpAny_storeR (i := 7) (by kernel_rfl) rfl (by kernel_rfl) (by kernel_rfl) 32 (.tmp 4) (.tmp 23) (by kernel_rfl) b4 #[.int .u32 (CO : Int), .int .u32 (GT : Int), .int .u32 (DA : Int), .int .u32 (FI : Int)] (by kernel_rfl) (by kernel_rfl) 32 _ j4 (by kernel_rfl) (by kernel_rfl) (by kernel_rfl) ?_
      rw [← hWB]
      have l3 : WB.heap[b3]? = some (.cells #[.string FB] 9 (0, 0)) := by rw [hWB]; exact setRow_far j3 (Ne.symm ne34)
      have l4 : WB.heap[b4]? = some (.cells #[.int .u32 (CO : Int), .int .u32 (GT : Int), .int .u32 (DA : Int), .int .u32 (FI : Int)] 32 (0, 0)) := by rw [hWB]; exact setRow_heap _ _ _ _ _ _ j4
      have bB : Below w3.heap.size w3 WB := by rw [hWB]; exact bA.grown (grown_setRow _ _ _) bA.size (fun k e => by injection e with e; omega)
      refine wpAny_done (by kernel_rfl) ?_ _
      have HWB : Hid (Below w3.heap.size w3 WB) := bB
      replace c0 := keep_cell bB c0
      replace c1 := keep_cell bB c1
      replace c2 := keep_cell bB c2
      replace c3 := keep_cell bB c3
      replace c4 := keep_cell bB c4
      replace c5 := keep_cell bB c5
      replace c6 := keep_cell bB c6
      replace c7 := keep_cell bB c7
      replace c8 := keep_cell bB c8
      replace c9 := keep_cell bB c9
      replace c10 := keep_cell bB c10
      replace c11 := keep_cell bB c11
      replace c12 := keep_cell bB c12
      replace c13 := keep_cell bB c13
      have HL : Hid (∀ w', Below WB.heap.size WB w' → w'.heap[b3]? = some (.cells #[.string FB] 9 (0, 0)) ∧ w'.heap[b4]? = some (.cells #[.int .u32 (CO : Int), .int .u32 (GT : Int), .int .u32 (DA : Int), .int .u32 (FI : Int)] 32 (0, 0))) := fun w' h => ⟨(h.block _ (Array.getElem?_eq_some_iff.1 l3).1).trans l3, (h.block _ (Array.getElem?_eq_some_iff.1 l4).1).trans l4⟩
      obtain ⟨p0, p1, p2, p3⟩ := four l4
      have s0 := one_cell l3
      clear i3 i4 j3 j4 l3 l4 k3 f3 hWA hWB bA bB HWY ne34
      go_upto_region 4 with fail
      refine wp_region_list ?_
      refine Sx.take (v := .pointer (some ⟨b4, 1, none⟩)) (by kernel_rfl) ?_ ?_
      · go_simp
      simp only [Act.put, List.getElem_toArray, List.getElem_cons_zero, List.getElem_cons_succ, List.setIfInBounds_toArray, List.set_cons_zero, List.set_cons_succ]
      refine Sx.take (v := .int .u32 (GT : Int)) (by kernel_rfl) ?_ ?_
      · have p_ := p1; go_simp
      simp only [Act.put, List.getElem_toArray, List.getElem_cons_zero, List.getElem_cons_succ, List.setIfInBounds_toArray, List.set_cons_zero, List.set_cons_succ]
      refine Sx.take (v := .pointer (some ⟨w.heap.size, 1, none⟩)) (by kernel_rfl) ?_ ?_
      · go_simp
      simp only [Act.put, List.getElem_toArray, List.getElem_cons_zero, List.getElem_cons_succ, List.setIfInBounds_toArray, List.set_cons_zero, List.set_cons_succ]
      refine Sx.take (v := .int .u32 (BA : Int)) (by kernel_rfl) ?_ ?_
      · have p_ := c1; go_simp
      simp only [Act.put, List.getElem_toArray, List.getElem_cons_zero, List.getElem_cons_succ, List.setIfInBounds_toArray, List.set_cons_zero, List.set_cons_succ]
      refine Sx.take (v := .int .u32 (A84 : Int)) (by kernel_rfl) ?_ ?_
      · exact Sx.sub rfl rfl rfl HJ.out.1
      simp only [Act.put, List.getElem_toArray, List.getElem_cons_zero, List.getElem_cons_succ, List.setIfInBounds_toArray, List.set_cons_zero, List.set_cons_succ]
      refine Sx.take (v := .int .i64 (A84 : Int)) (by kernel_rfl) ?_ ?_
      · exact Sx.convI rfl (by kernel_rfl) (by kernel_rfl) rfl HJ.out.2.1
      simp only [Act.put, List.getElem_toArray, List.getElem_cons_zero, List.getElem_cons_succ, List.setIfInBounds_toArray, List.set_cons_zero, List.set_cons_succ]
      refine Sx.take (v := .int .i64 (A8 : Int)) (by kernel_rfl) ?_ ?_
      · exact Sx.sub rfl rfl rfl HJ.out.2.2.1
      simp only [Act.put, List.getElem_toArray, List.getElem_cons_zero, List.getElem_cons_succ, List.setIfInBounds_toArray, List.set_cons_zero, List.set_cons_succ]
      refine BigFrame.wpList_want (by kernel_rfl) ?_
      intro K hK
      unfold Oper.wp
      simp [go_sem]
      refine hK _ _ ?_
      clear hK K
      obtain ⟨WC, hWC⟩ : ∃ z, z = WB.alloc (.cells #[.int .i64 0] 3) := ⟨_, rfl⟩
      rw [← hWC]
      have j5 : WC.heap[WB.heap.size]? = some (.cells #[.int .i64 0] 3 (0, 0)) := by rw [hWC]; exact new_heap _ _ _
      have bC : Below WB.heap.size WB WC := by rw [hWC]; exact (Below.refl _ _).alloc (Nat.le_refl _) _
      have k5 := one_cell j5
      have f5 := one_free j5 0
      try simp only [Act.put, List.getElem_toArray, List.getElem_cons_zero, List.getElem_cons_succ, List.setIfInBounds_toArray, List.set_cons_zero, List.set_cons_succ]
      refine BigFrame.wpList_want (by kernel_rfl) ?_
      intro K hK
      unfold Oper.wp
      simp [go_sem, k5, f5]
      refine hK _ _ ?_
      clear hK K
      obtain ⟨WD, hWD⟩ : ∃ z, z = WC.setCell ⟨WB.heap.size, 0, none⟩ (.int .i64 (A8 : Int)) := ⟨_, rfl⟩
      rw [← hWD]
      have l5 : WD.heap[WB.heap.size]? = some (.cells #[.int .i64 (A8 : Int)] 3 (0, 0)) := by rw [hWD]; exact set1_heap j5 _
      have bD : Below WB.heap.size WB WD := by rw [hWD]; exact bC.setCell (Nat.le_refl _) _
      try simp only [Act.put, List.getElem_toArray, List.getElem_cons_zero, List.getElem_cons_succ, List.setIfInBounds_toArray, List.set_cons_zero, List.set_cons_succ]
      refine wpList_nil ?_
      have HWD : Hid (Below w3.heap.size w3 WD) := below_tr HWB.out bD
      replace c0 := keep_cell bD c0
      replace c1 := keep_cell bD c1
      replace c2 := keep_cell bD c2
      replace c3 := keep_cell bD c3
      replace c4 := keep_cell bD c4
      replace c5 := keep_cell bD c5
      replace c6 := keep_cell bD c6
      replace c7 := keep_cell bD c7
      replace c8 := keep_cell bD c8
      replace c9 := keep_cell bD c9
      replace c10 := keep_cell bD c10
      replace c11 := keep_cell bD c11
      replace c12 := keep_cell bD c12
      replace c13 := keep_cell bD c13
      replace p0 := keep_cell bD p0
      replace p1 := keep_cell bD p1
      replace p2 := keep_cell bD p2
      replace p3 := keep_cell bD p3
      replace s0 := keep_cell bD s0
      have a0 := one_cell l5
      have HLD : Hid (∀ w', Below WD.heap.size WD w' → w'.cell? ⟨b3, 0, none⟩ = some (.string FB) ∧ w'.cell? ⟨WB.heap.size, 0, none⟩ = some (.int .i64 (A8 : Int)) ∧ w'.cell? ⟨b4, 0, none⟩ = some (.int .u32 (CO : Int)) ∧ w'.cell? ⟨b4, 2, none⟩ = some (.int .u32 (DA : Int))) := fun w' h => ⟨keep_cell h s0, keep_cell h a0, keep_cell h p0, keep_cell h p2⟩
      clear k5 f5 j5 l5 bC bD hWC hWD HL
      generalize WB.heap.size = b5 at HLD a0 ⊢
      go_upto_region 5 with fail
      refine wp_region_list ?_
      refine Sx.take (v := .func (.func 16) #[] #[.pointer (some ⟨b3, 0, none⟩), .pointer (some ⟨b5, 0, none⟩)]) (by kernel_rfl) ?_ ?_
      · go_simp
      simp only [Act.put, List.getElem_toArray, List.getElem_cons_zero, List.getElem_cons_succ, List.setIfInBounds_toArray, List.set_cons_zero, List.set_cons_succ]
      refine Sx.take (v := .func (.func 16) #[] #[.pointer (some ⟨b3, 0, none⟩), .pointer (some ⟨b5, 0, none⟩)]) (by kernel_rfl) ?_ ?_
      · exact Sx.asn rfl rfl
      simp only [Act.put, List.getElem_toArray, List.getElem_cons_zero, List.getElem_cons_succ, List.setIfInBounds_toArray, List.set_cons_zero, List.set_cons_succ]
      refine wpList_nil ?_
      have K160 : Hid (∀ w', Below WD.heap.size WD w' → Calls Tryz.prog 16 #[.int .i64 0, .pointer (some ⟨b3, 0, none⟩), .pointer (some ⟨b5, 0, none⟩)] w' fun e w'' => e = .returned (.int .u32 0) ∧ Below w'.heap.size w' w'') := fun w' h => K16g.out 0 0 b3 b5 w' (by have := HQ.out; omega) HVV.out.1 (HLD.out _ h).1 (HLD.out _ h).2.1
      have K161 : Hid (∀ w', Below WD.heap.size WD w' → Calls Tryz.prog 16 #[.int .i64 1, .pointer (some ⟨b3, 0, none⟩), .pointer (some ⟨b5, 0, none⟩)] w' fun e w'' => e = .returned (.int .u32 2147483648) ∧ Below w'.heap.size w' w'') := fun w' h => K16g.out 1 2147483648 b3 b5 w' (by have := HQ.out; omega) HVV.out.2.1 (HLD.out _ h).1 (HLD.out _ h).2.1
      go_upto_region 6 with fail
      refine wp_region_list ?_
      refine Sx.take (v := .int .i64 (A8 : Int)) (by kernel_rfl) ?_ ?_
      · have p_ := a0; go_simp
      simp only [Act.put, List.getElem_toArray, List.getElem_cons_zero, List.getElem_cons_succ, List.setIfInBounds_toArray, List.set_cons_zero, List.set_cons_succ]
      refine Sx.take (v := .bool false) (by kernel_rfl) ?_ ?_
      · exact Sx.ltI rfl rfl rfl HJ.out.2.2.2.1
      simp only [Act.put, List.getElem_toArray, List.getElem_cons_zero, List.getElem_cons_succ, List.setIfInBounds_toArray, List.set_cons_zero, List.set_cons_succ]
      refine Sx.take (v := .bool false) (by kernel_rfl) ?_ ?_
      · exact Sx.mv rfl rfl
      simp only [Act.put, List.getElem_toArray, List.getElem_cons_zero, List.getElem_cons_succ, List.setIfInBounds_toArray, List.set_cons_zero, List.set_cons_succ]
      refine Sx.take (v := .int .i64 (A8 : Int)) (by kernel_rfl) ?_ ?_
      · have p_ := a0; go_simp
      simp only [Act.put, List.getElem_toArray, List.getElem_cons_zero, List.getElem_cons_succ, List.setIfInBounds_toArray, List.set_cons_zero, List.set_cons_succ]
      refine Sx.take (v := .int .i64 (A88 : Int)) (by kernel_rfl) ?_ ?_
      · exact Sx.add rfl rfl rfl HJ.out.2.2.2.2.1
      simp only [Act.put, List.getElem_toArray, List.getElem_cons_zero, List.getElem_cons_succ, List.setIfInBounds_toArray, List.set_cons_zero, List.set_cons_succ]
      refine Sx.take (v := .pointer (some ⟨w.heap.size, 11, none⟩)) (by kernel_rfl) ?_ ?_
      · go_simp
      simp only [Act.put, List.getElem_toArray, List.getElem_cons_zero, List.getElem_cons_succ, List.setIfInBounds_toArray, List.set_cons_zero, List.set_cons_succ]
      refine Sx.take (v := .slice la LL lc) (by kernel_rfl) ?_ ?_
      · have p_ := c11; go_simp
      simp only [Act.put, List.getElem_toArray, List.getElem_cons_zero, List.getElem_cons_succ, List.setIfInBounds_toArray, List.set_cons_zero, List.set_cons_succ]
      refine Sx.take (v := .int .i64 (LL : Int)) (by kernel_rfl) ?_ ?_
      · exact Sx.lenV (e := 22) (by kernel_rfl) rfl rfl
      simp only [Act.put, List.getElem_toArray, List.getElem_cons_zero, List.getElem_cons_succ, List.setIfInBounds_toArray, List.set_cons_zero, List.set_cons_succ]
      refine Sx.take (v := .pointer (some ⟨w.heap.size, 12, none⟩)) (by kernel_rfl) ?_ ?_
      · go_simp
      simp only [Act.put, List.getElem_toArray, List.getElem_cons_zero, List.getElem_cons_succ, List.setIfInBounds_toArray, List.set_cons_zero, List.set_cons_succ]
      refine Sx.take (v := .int .i64 (GL : Int)) (by kernel_rfl) ?_ ?_
      · have p_ := c12; go_simp
      simp only [Act.put, List.getElem_toArray, List.getElem_cons_zero, List.getElem_cons_succ, List.setIfInBounds_toArray, List.set_cons_zero, List.set_cons_succ]
      refine Sx.take (v := .int .i64 (LG : Int)) (by kernel_rfl) ?_ ?_
      · exact Sx.add rfl rfl rfl HJ.out.2.2.2.2.2.1
      simp only [Act.put, List.getElem_toArray, List.getElem_cons_zero, List.getElem_cons_succ, List.setIfInBounds_toArray, List.set_cons_zero, List.set_cons_succ]
      refine Sx.take (v := .int .i64 (LG4 : Int)) (by kernel_rfl) ?_ ?_
      · exact Sx.mul rfl rfl rfl HJ.out.2.2.2.2.2.2.1
      simp only [Act.put, List.getElem_toArray, List.getElem_cons_zero, List.getElem_cons_succ, List.setIfInBounds_toArray, List.set_cons_zero, List.set_cons_succ]
      refine Sx.take (v := .int .i64 (AE : Int)) (by kernel_rfl) ?_ ?_
      · exact Sx.add rfl rfl rfl HJ.out.2.2.2.2.2.2.2.1
      simp only [Act.put, List.getElem_toArray, List.getElem_cons_zero, List.getElem_cons_succ, List.setIfInBounds_toArray, List.set_cons_zero, List.set_cons_succ]
      refine Sx.take (v := .string FB) (by kernel_rfl) ?_ ?_
      · have p_ := s0; go_simp
      simp only [Act.put, List.getElem_toArray, List.getElem_cons_zero, List.getElem_cons_succ, List.setIfInBounds_toArray, List.set_cons_zero, List.set_cons_succ]
      refine Sx.take (v := .int .i64 (FB.size : Int)) (by kernel_rfl) ?_ ?_
      · exact Sx.lenS (by kernel_rfl) rfl rfl rfl
      simp only [Act.put, List.getElem_toArray, List.getElem_cons_zero, List.getElem_cons_succ, List.setIfInBounds_toArray, List.set_cons_zero, List.set_cons_succ]
      refine Sx.take (v := .bool false) (by kernel_rfl) ?_ ?_
      · exact Sx.gtI rfl rfl rfl HJ.out.2.2.2.2.2.2.2.2
      simp only [Act.put, List.getElem_toArray, List.getElem_cons_zero, List.getElem_cons_succ, List.setIfInBounds_toArray, List.set_cons_zero, List.set_cons_succ]
      refine Sx.take (v := .bool false) (by kernel_rfl) ?_ ?_
      · exact Sx.pickF rfl rfl rfl
      simp only [Act.put, List.getElem_toArray, List.getElem_cons_zero, List.getElem_cons_succ, List.setIfInBounds_toArray, List.set_cons_zero, List.set_cons_succ]
      refine Sx.take (v := .bool false) (by kernel_rfl) ?_ ?_
      · exact Sx.mv rfl rfl
      simp only [Act.put, List.getElem_toArray, List.getElem_cons_zero, List.getElem_cons_succ, List.setIfInBounds_toArray, List.set_cons_zero, List.set_cons_succ]
      refine Sx.take (v := .func (.func 16) #[] #[.pointer (some ⟨b3, 0, none⟩), .pointer (some ⟨b5, 0, none⟩)]) (by kernel_rfl) ?_ ?_
      · exact Sx.mv rfl rfl
      simp only [Act.put, List.getElem_toArray, List.getElem_cons_zero, List.getElem_cons_succ, List.setIfInBounds_toArray, List.set_cons_zero, List.set_cons_succ]
      refine BigFrame.wpList_want (by kernel_rfl) ?_
      intro K hK
      unfold Oper.wp
      simp [go_sem]
      refine (K160.out _ (Below.refl _ _)).mono ?_
      rintro e wp ⟨rfl, hb6⟩
      have HBwp : Hid (Below WD.heap.size WD wp) := hb6
      clear hb6
      refine hK _ _ ?_
      clear hK K
      try simp only [Act.put, List.getElem_toArray, List.getElem_cons_zero, List.getElem_cons_succ, List.setIfInBounds_toArray, List.set_cons_zero, List.set_cons_succ]
      refine Sx.take (v := .bool false) (by kernel_rfl) ?_ ?_
      · exact Sx.neI rfl rfl rfl rfl
      simp only [Act.put, List.getElem_toArray, List.getElem_cons_zero, List.getElem_cons_succ, List.setIfInBounds_toArray, List.set_cons_zero, List.set_cons_succ]
      refine Sx.take (v := .bool false) (by kernel_rfl) ?_ ?_
      · exact Sx.pickF rfl rfl rfl
      simp only [Act.put, List.getElem_toArray, List.getElem_cons_zero, List.getElem_cons_succ, List.setIfInBounds_toArray, List.set_cons_zero, List.set_cons_succ]
      refine Sx.take (v := .bool false) (by kernel_rfl) ?_ ?_
      · exact Sx.mv rfl rfl
      simp only [Act.put, List.getElem_toArray, List.getElem_cons_zero, List.getElem_cons_succ, List.setIfInBounds_toArray, List.set_cons_zero, List.set_cons_succ]
      refine Sx.take (v := .func (.func 16) #[] #[.pointer (some ⟨b3, 0, none⟩), .pointer (some ⟨b5, 0, none⟩)]) (by kernel_rfl) ?_ ?_
      · exact Sx.mv rfl rfl
      simp only [Act.put, List.getElem_toArray, List.getElem_cons_zero, List.getElem_cons_succ, List.setIfInBounds_toArray, List.set_cons_zero, List.set_cons_succ]
      refine BigFrame.wpList_want (by kernel_rfl) ?_
      intro K hK
      unfold Oper.wp
      simp [go_sem]
      refine (K161.out _ HBwp.out).mono ?_
      rintro e wq ⟨rfl, hb6⟩
      have HBwq : Hid (Below WD.heap.size WD wq) := below_tr HBwp.out hb6
      clear hb6
      refine hK _ _ ?_
      clear hK K
      try simp only [Act.put, List.getElem_toArray, List.getElem_cons_zero, List.getElem_cons_succ, List.setIfInBounds_toArray, List.set_cons_zero, List.set_cons_succ]
      refine Sx.take (v := .bool false) (by kernel_rfl) ?_ ?_
      · exact Sx.neI rfl rfl rfl rfl
      simp only [Act.put, List.getElem_toArray, List.getElem_cons_zero, List.getElem_cons_succ, List.setIfInBounds_toArray, List.set_cons_zero, List.set_cons_succ]
      refine Sx.take (v := .bool false) (by kernel_rfl) ?_ ?_
      · exact Sx.pickF rfl rfl rfl
      simp only [Act.put, List.getElem_toArray, List.getElem_cons_zero, List.getElem_cons_succ, List.setIfInBounds_toArray, List.set_cons_zero, List.set_cons_succ]
      refine wpList_nil ?_
      have HU2 : Hid (Below w3.heap.size w3 wq) := below_tr HWD.out HBwq.out
      clear c0 c1 c2 c3 c4 c5 c6 c7 c8 c9 c10 c11 c12 c13 p0 p1 p2 p3 s0 a0
      have HWU : Hid (Below w.heap.size w wq) := below_tr HW3.out HU2.out
      have HNU : Hid (∀ w', Below wq.heap.size wq w' → w'.heap[w.heap.size]? = some (.cells #[.bool SH, .int .u32 (BA : Int), .int .u32 (EN : Int), .string C, .string D, .int .u32 (BS : Int), .slice na NN nc, .string SN, .string IP, .slice ya YY yc, .slice ra RR rc, .slice la LL lc, .int .i64 (GL : Int), .int .u32 (NI : Int)] 28 (0, 0))) := fun w' h => HN.out w' (below_tr (below_tr H3.out HU2.out) h)
      have HLU : Hid (∀ w', Below wq.heap.size wq w' → w'.cell? ⟨b3, 0, none⟩ = some (.string FB) ∧ w'.cell? ⟨b5, 0, none⟩ = some (.int .i64 (A8 : Int)) ∧ w'.cell? ⟨b4, 0, none⟩ = some (.int .u32 (CO : Int)) ∧ w'.cell? ⟨b4, 2, none⟩ = some (.int .u32 (DA : Int))) := fun w' h => HLD.out w' (below_tr HBwq.out h)
      have nn := HNU.out wq (Below.refl _ _)
      have c11 : wq.cell? ⟨w.heap.size, 11, none⟩ = some (.slice la LL lc) := cell14 nn 11 rfl
      clear nn
      go_upto_region 8 with fail
      refine wp_region_list ?_
      refine Sx.take (v := .pointer (some ⟨w.heap.size, 11, none⟩)) (by kernel_rfl) ?_ ?_
      · go_simp
      simp only [Act.put, List.getElem_toArray, List.getElem_cons_zero, List.getElem_cons_succ, List.setIfInBounds_toArray, List.set_cons_zero, List.set_cons_succ]
      refine Sx.take (v := .slice la LL lc) (by kernel_rfl) ?_ ?_
      · have p_ := c11; go_simp
      simp only [Act.put, List.getElem_toArray, List.getElem_cons_zero, List.getElem_cons_succ, List.setIfInBounds_toArray, List.set_cons_zero, List.set_cons_succ]
      refine Sx.take (v := .int .i64 (LL : Int)) (by kernel_rfl) ?_ ?_
      · exact Sx.lenV (e := 22) (by kernel_rfl) rfl rfl
      simp only [Act.put, List.getElem_toArray, List.getElem_cons_zero, List.getElem_cons_succ, List.setIfInBounds_toArray, List.set_cons_zero, List.set_cons_succ]
      refine Sx.take (v := .int .i64 0) (by kernel_rfl) ?_ ?_
      · exact Sx.mv rfl rfl
      simp only [Act.put, List.getElem_toArray, List.getElem_cons_zero, List.getElem_cons_succ, List.setIfInBounds_toArray, List.set_cons_zero, List.set_cons_succ]
      refine wpList_nil ?_
      clear c11
      go_wp2
      go_loopw [62] (fun x wr => ∃ k : Nat, x = .int .i64 (k : Int) ∧ k ≤ LL ∧ Below wq.heap.size wq wr) (fun x _ => LL - (intOf x).toNat)
      case atStart => exact ⟨0, rfl, Nat.zero_le _, Below.refl _ _⟩
      case round =>
        obtain ⟨k, rfl, hk, hbr⟩ := hrel
        by_cases hlt : k < LL
        · have hkl : k < LO.length := by have := HQ.out; omega
          obtain ⟨lb, o, hlo, cc⟩ := HLO2.out k hkl
          replace cc := keep_cell (below_tr HWU.out hbr) cc
          have hpw := HVV.out.2.2.1 k hkl
          obtain ⟨A, hA⟩ : ∃ z, z = LO[k] := ⟨_, rfl⟩
          rw [← hA] at cc hpw
          obtain ⟨VV, hVV⟩ : ∃ z, z = (CO + A) % 4294967296 := ⟨_, rfl⟩
          rw [← hVV] at hpw
          obtain ⟨K2, hK2⟩ : ∃ z, z = 2 + k := ⟨_, rfl⟩
          rw [← hK2] at hpw
          have HX : Hid (PW[K2]? = some VV ∧ IntKind.i64.wrap (2 + (k : Int)) = (K2 : Int) ∧ IntKind.u32.wrap ((CO : Int) + (A : Int)) = (VV : Int) ∧ k < LL ∧ K2 = 2 + k) := ⟨hpw, Sx.w64 (by omega) (by have := HQ.out; omega), by rw [IntKind.wrap_u32, hVV]; omega, hlt, hK2⟩
          have HBR : Hid (Below wq.heap.size wq wr) := hbr
          have p0 := (HLU.out _ hbr).2.2.1
          have hki : (k : Int) < (LL : Int) := by omega
          subst hlo
          clear hA hVV hpw hK2 hkl hbr hk hlt
          go_upto_region 11 with fail
          refine wp_region_held_drew (S := fun w' => Below wr.heap.size wr w') (by kernel_rfl) (Below.refl _ _).drew (fun hS => ?_)
          refine wpAnyH_take (i := 0) (v := .func (.func 16) #[] #[.pointer (some ⟨b3, 0, none⟩), .pointer (some ⟨b5, 0, none⟩)]) rfl (by kernel_rfl) (by kernel_rfl) (by kernel_rfl) (fun _ _ _ h => h) (Or.inl ⟨by kernel_rfl, fun wq hSw => ?_⟩) hS ?_
          · go_simp
          simp only [Act.put, List.getElem_toArray, List.getElem_cons_zero, List.getElem_cons_succ, List.setIfInBounds_toArray, List.set_cons_zero, List.set_cons_succ]
          refine wpAnyH_take (i := 1) (v := .int .i64 (k : Int)) rfl (by kernel_rfl) (by kernel_rfl) (by kernel_rfl) (fun _ _ _ h => h) (Or.inl ⟨by kernel_rfl, fun wq hSw => ?_⟩) hS ?_
          · go_simp
          simp only [Act.put, List.getElem_toArray, List.getElem_cons_zero, List.getElem_cons_succ, List.setIfInBounds_toArray, List.set_cons_zero, List.set_cons_succ]
          refine wpAnyH_take (i := 2) (v := .int .i64 (K2 : Int)) rfl (by kernel_rfl) (by kernel_rfl) (by kernel_rfl) (fun _ _ _ h => h) (Or.inl ⟨by kernel_rfl, fun wq hSw => ?_⟩) hS ?_
          · exact Sx.add rfl rfl rfl HX.out.2.1
          simp only [Act.put, List.getElem_toArray, List.getElem_cons_zero, List.getElem_cons_succ, List.setIfInBounds_toArray, List.set_cons_zero, List.set_cons_succ]
          refine wpAnyH_take (i := 4) (v := .pointer (some ⟨b4, 0, none⟩)) rfl (by kernel_rfl) (by kernel_rfl) (by kernel_rfl) (fun _ _ _ h => h) (Or.inl ⟨by kernel_rfl, fun wq hSw => ?_⟩) hS ?_
          · go_simp
          simp only [Act.put, List.getElem_toArray, List.getElem_cons_zero, List.getElem_cons_succ, List.setIfInBounds_toArray, List.set_cons_zero, List.set_cons_succ]
          refine wpAnyH_take (i := 5) (v := .int .u32 (CO : Int)) rfl (by kernel_rfl) (by kernel_rfl) (by kernel_rfl) (fun _ _ _ h => h) (Or.inl ⟨by kernel_rfl, fun wq hSw => ?_⟩) hS ?_
          · have p_ := keep_cell hSw p0; go_simp
          simp only [Act.put, List.getElem_toArray, List.getElem_cons_zero, List.getElem_cons_succ, List.setIfInBounds_toArray, List.set_cons_zero, List.set_cons_succ]
          refine wpAnyH_take (i := 6) (v := .int .u32 (A : Int)) rfl (by kernel_rfl) (by kernel_rfl) (by kernel_rfl) (fun _ _ _ h => h) (Or.inl ⟨by kernel_rfl, fun wq hSw => ?_⟩) hS ?_
          · go_simp
          simp only [Act.put, List.getElem_toArray, List.getElem_cons_zero, List.getElem_cons_succ, List.setIfInBounds_toArray, List.set_cons_zero, List.set_cons_succ]
          refine wpAnyH_take (i := 7) (v := .int .u32 (VV : Int)) rfl (by kernel_rfl) (by kernel_rfl) (by kernel_rfl) (fun _ _ _ h => h) (Or.inl ⟨by kernel_rfl, fun wq hSw => ?_⟩) hS ?_
          · exact Sx.add rfl rfl rfl HX.out.2.2.1
          simp only [Act.put, List.getElem_toArray, List.getElem_cons_zero, List.getElem_cons_succ, List.setIfInBounds_toArray, List.set_cons_zero, List.set_cons_succ]
          refine wpAnyH_ready (rs := [3]) (by kernel_rfl) (by simp) (AllReadyH.cons rfl (fun K hK => ?_) AllReadyH.nil)
          refine if_yes (by kernel_rfl) ?_
          simp [go_sem]
          refine (K16g.out K2 VV b3 b5 _ (by have := HQ.out; have := HX.out; omega) HX.out.1 (HLU.out _ (below_tr HBR.out hS)).1 (HLU.out _ (below_tr HBR.out hS)).2.1).mono ?_
          rintro e w6 ⟨rfl, hb6⟩
          have hS := below_tr hS hb6
          refine hK.out _ _ hS (fun _ => ?_)
          clear hK K hb6
          try simp only [Act.put, List.getElem_toArray, List.getElem_cons_zero, List.getElem_cons_succ, List.setIfInBounds_toArray, List.set_cons_zero, List.set_cons_succ]
          refine wpAnyH_take (i := 8) (v := .bool false) rfl (by kernel_rfl) (by kernel_rfl) (by kernel_rfl) (fun _ _ _ h => h) (Or.inl ⟨by kernel_rfl, fun wq hSw => ?_⟩) hS ?_
          · exact Sx.neI rfl rfl rfl (by simp)
          simp only [Act.put, List.getElem_toArray, List.getElem_cons_zero, List.getElem_cons_succ, List.setIfInBounds_toArray, List.set_cons_zero, List.set_cons_succ]
          refine wpAnyH_done (by kernel_rfl) ?_ _
          have HB9 : Hid (Below wq.heap.size wq _) := below_tr HBR.out hS
          clear hS p0 cc
          have hlt := HX.out.2.2.2.1
          have hNb : LL ≤ 30 := by have := HQ.out; omega
          go_wp2
          go_roundw
          case rel => exact ⟨k + 1, by go_num, hlt, HB9.out⟩
          case measure => simp [intOf]; omega
        · have hkM : LL = k := by omega
          have hki : ¬ (LL : Int) < (LL : Int) := by omega
          subst hkM
          have HBR : Hid (Below wq.heap.size wq wr) := hbr
          have nn := HNU.out wr hbr
          have c9 : wr.cell? ⟨w.heap.size, 9, none⟩ = some (.slice ya YY yc) := cell14 nn 9 rfl
          have c12 : wr.cell? ⟨w.heap.size, 12, none⟩ = some (.int .i64 (GL : Int)) := cell14 nn 12 rfl
          obtain ⟨DN, hDN⟩ : ∃ z, z = YY - GL := ⟨_, rfl⟩
          have HDN : Hid (IntKind.i64.wrap ((YY : Int) - (GL : Int)) = (DN : Int)) := Sx.w64 (by have := HQ.out; omega) (by have := HQ.out; omega)
          have e2 : DN ≤ YY := by omega
          have e3 : YY - DN = GL := by have := HQ.out; omega
          have e4 : YY ≤ yc := HSC2.out.2.1
          have e5 : YY ≤ 60 := by have := HQ.out; omega
          obtain ⟨SA, hSA⟩ : ∃ z, z = (if yc = DN then ya else Option.map (fun x => x.add (DN * 5)) ya) := ⟨_, rfl⟩
          have HLSD : Hid (LS = SY.drop DN ∧ LS.length = GL ∧ SY.length = YY) := ⟨by rw [hDN]; exact HQ.out.2.2.2.2.2.1, HQ.out.2.1, by have := HQ.out; omega⟩
          have HSA : Hid (∀ i (h : i < LS.length), ∃ b o, SA = some ⟨b, o, none⟩ ∧ At5 w b (o + i * 5) LS[i]) := fun i hi => by
            have hL := HLSD.out
            have hGL : i < GL := by omega
            obtain ⟨b', o, e, c⟩ := HSY2.out (DN + i) (by omega)
            refine ⟨b', o + DN * 5, ?_, ?_⟩
            · rw [hSA, if_neg (by omega), e]
              simp [Addr.add]
            · have e9 : LS[i] = SY[DN + i]'(by omega) := by simp only [hL.1, List.getElem_drop]
              rw [e9, show o + DN * 5 + i * 5 = o + (DN + i) * 5 by omega]
              exact c
          have HSE : Hid ((if yc = DN then ya else Option.map (fun x => x.add (DN * 5)) ya) = SA) := by show _ = _; rw [hSA]
          clear hbr nn hk hDN hSA
          go_upto_region 14 with fail
          refine wp_region_list ?_
          refine Sx.take (v := .pointer (some ⟨w.heap.size, 9, none⟩)) (by kernel_rfl) ?_ ?_
          · go_simp
          simp only [Act.put, List.getElem_toArray, List.getElem_cons_zero, List.getElem_cons_succ, List.setIfInBounds_toArray, List.set_cons_zero, List.set_cons_succ]
          refine Sx.take (v := .slice ya YY yc) (by kernel_rfl) ?_ ?_
          · have p_ := c9; go_simp
          simp only [Act.put, List.getElem_toArray, List.getElem_cons_zero, List.getElem_cons_succ, List.setIfInBounds_toArray, List.set_cons_zero, List.set_cons_succ]
          refine Sx.take (v := .pointer (some ⟨w.heap.size, 9, none⟩)) (by kernel_rfl) ?_ ?_
          · go_simp
          simp only [Act.put, List.getElem_toArray, List.getElem_cons_zero, List.getElem_cons_succ, List.setIfInBounds_toArray, List.set_cons_zero, List.set_cons_succ]
          refine Sx.take (v := .slice ya YY yc) (by kernel_rfl) ?_ ?_
          · have p_ := c9; go_simp
          simp only [Act.put, List.getElem_toArray, List.getElem_cons_zero, List.getElem_cons_succ, List.setIfInBounds_toArray, List.set_cons_zero, List.set_cons_succ]
          refine Sx.take (v := .int .i64 (YY : Int)) (by kernel_rfl) ?_ ?_
          · exact Sx.lenV (e := 46) (by kernel_rfl) rfl rfl
          simp only [Act.put, List.getElem_toArray, List.getElem_cons_zero, List.getElem_cons_succ, List.setIfInBounds_toArray, List.set_cons_zero, List.set_cons_succ]
          refine Sx.take (v := .pointer (some ⟨w.heap.size, 12, none⟩)) (by kernel_rfl) ?_ ?_
          · go_simp
          simp only [Act.put, List.getElem_toArray, List.getElem_cons_zero, List.getElem_cons_succ, List.setIfInBounds_toArray, List.set_cons_zero, List.set_cons_succ]
          refine Sx.take (v := .int .i64 (GL : Int)) (by kernel_rfl) ?_ ?_
          · have p_ := c12; go_simp
          simp only [Act.put, List.getElem_toArray, List.getElem_cons_zero, List.getElem_cons_succ, List.setIfInBounds_toArray, List.set_cons_zero, List.set_cons_succ]
          refine Sx.take (v := .int .i64 (DN : Int)) (by kernel_rfl) ?_ ?_
          · exact Sx.sub rfl rfl rfl HDN.out
          simp only [Act.put, List.getElem_toArray, List.getElem_cons_zero, List.getElem_cons_succ, List.setIfInBounds_toArray, List.set_cons_zero, List.set_cons_succ]
          refine Sx.take (v := .slice SA GL (yc - DN)) (by kernel_rfl) ?_ ?_
          · clear HSA HLSD HBR; have hse := HSE.out; simp [go_sem, execOp]; rw [if_pos e2, hse, e3]
          simp only [Act.put, List.getElem_toArray, List.getElem_cons_zero, List.getElem_cons_succ, List.setIfInBounds_toArray, List.set_cons_zero, List.set_cons_succ]
          refine Sx.take (v := .int .i64 (GL : Int)) (by kernel_rfl) ?_ ?_
          · exact Sx.lenV (e := 46) (by kernel_rfl) rfl rfl
          simp only [Act.put, List.getElem_toArray, List.getElem_cons_zero, List.getElem_cons_succ, List.setIfInBounds_toArray, List.set_cons_zero, List.set_cons_succ]
          refine Sx.take (v := .int .i64 0) (by kernel_rfl) ?_ ?_
          · exact Sx.mv rfl rfl
          simp only [Act.put, List.getElem_toArray, List.getElem_cons_zero, List.getElem_cons_succ, List.setIfInBounds_toArray, List.set_cons_zero, List.set_cons_succ]
          refine wpList_nil ?_
          clear c9 c12 e2 e3 e4 e5 hki
          generalize wr = wr0 at HBR ⊢
          go_wp2
          go_loopw [87] (fun x wv => ∃ j : Nat, x = .int .i64 (j : Int) ∧ j ≤ GL ∧ Below wr0.heap.size wr0 wv) (fun x _ => GL - (intOf x).toNat)
          case atStart => exact ⟨0, rfl, Nat.zero_le _, Below.refl _ _⟩
          case round =>
            obtain ⟨j, rfl, hj, hbv⟩ := hrel
            by_cases hlt : j < GL
            · have hjl : j < LS.length := by have := HQ.out; omega
              obtain ⟨sb, o, hlo, r0, r1, r2, r3, r4⟩ := HSA.out j hjl
              have hpw := HVV.out.2.2.2 j hjl
              have hsb : LS[j].Bd := HSC2.out.2.2.2 _ (by
                have h2 := List.getElem_mem hjl
                simp only [HLSD.out.1] at h2 ⊢
                exact List.mem_of_mem_drop h2)
              obtain ⟨s, hss⟩ : ∃ s, s = LS[j] := ⟨_, rfl⟩
              rw [← hss] at r0 r1 r2 r3 r4 hpw hsb
              have hbw := below_tr HWU.out (below_tr HBR.out hbv)
              replace r0 := keep_cell hbw r0
              replace r1 := keep_cell hbw r1
              replace r2 := keep_cell hbw r2
              replace r3 := keep_cell hbw r3
              replace r4 := keep_cell hbw r4
              obtain ⟨W7, hW7, hb8, hz7, q0, q1, q2, q3, q4⟩ := box5 wr s
              obtain ⟨VC, hVC⟩ : ∃ z, z = (CO + s.value) % 4294967296 := ⟨_, rfl⟩
              obtain ⟨VD, hVD⟩ : ∃ z, z = (DA + s.value) % 4294967296 := ⟨_, rfl⟩
              rw [← hVC, ← hVD] at hpw
              obtain ⟨VV, hVV⟩ : ∃ z, z = (if s.part = 1 then VC else if s.part = 2 then VD else 0) := ⟨_, rfl⟩
              rw [← hVV] at hpw
              obtain ⟨KL, hKL⟩ : ∃ z, z = 2 + LL := ⟨_, rfl⟩
              obtain ⟨KJ, hKJ⟩ : ∃ z, z = KL + j := ⟨_, rfl⟩
              rw [← hKL, ← hKJ] at hpw
              have HX : Hid (PW[KJ]? = some VV ∧ IntKind.i64.wrap (2 + (LL : Int)) = (KL : Int) ∧ IntKind.i64.wrap ((KL : Int) + (j : Int)) = (KJ : Int) ∧ IntKind.u32.wrap ((CO : Int) + (s.value : Int)) = (VC : Int) ∧ IntKind.u32.wrap ((DA : Int) + (s.value : Int)) = (VD : Int) ∧ j < GL ∧ KJ = 2 + LL + j ∧ VV = (if s.part = 1 then VC else if s.part = 2 then VD else 0) ∧ VC < 4294967296 ∧ VD < 4294967296 ∧ -9223372036854775808 ≤ s.part ∧ s.part ≤ 9223372036854775807) := by
                have hq := HQ.out
                have hv := hsb.v
                refine ⟨hpw, Sx.w64 (by omega) (by omega), Sx.w64 (by omega) (by omega), by rw [IntKind.wrap_u32, hVC]; omega, by rw [IntKind.wrap_u32, hVD]; omega, hlt, by omega, hVV, by omega, by omega, hsb.p0, hsb.p1⟩
              have hn7 := HNU.out W7 (below_tr HBR.out (below_tr hbv hb8))
              have c11 : W7.cell? ⟨w.heap.size, 11, none⟩ = some (.slice la LL lc) := cell14 hn7 11 rfl
              have HB7 : Hid (Below wr0.heap.size wr0 W7) := below_tr hbv hb8
              have p0 := (HLU.out _ (below_tr HBR.out HB7.out)).2.2.1
              have p2 := (HLU.out _ (below_tr HBR.out HB7.out)).2.2.2
              have hki : (j : Int) < (GL : Int) := by omega
              obtain ⟨SV, hSV⟩ : ∃ z, z = s.value := ⟨_, rfl⟩
              obtain ⟨SP, hSP⟩ : ∃ z, z = s.part := ⟨_, rfl⟩
              rw [← hSV, ← hSP] at HX
              rw [← hSV] at q1 r1 hW7
              rw [← hSP] at q4 r4 hW7
              subst hlo
              clear hss hsb hVC hVD hpw hVV hKL hKJ hSV hSP hn7 hbv hb8 hz7 hbw hj hlt hjl
              go_upto_region 17 with fail
              refine wp_region_held_drew (S := fun w' => Below W7.heap.size W7 w') (by kernel_rfl) (Below.refl _ _).drew (fun hS => ?_)
              generalize W7.drew = W70 at hS ⊢
              refine wpAnyH_take (i := 0) (v := .func (.func 16) #[] #[.pointer (some ⟨b3, 0, none⟩), .pointer (some ⟨b5, 0, none⟩)]) rfl (by kernel_rfl) (by kernel_rfl) (by kernel_rfl) (fun _ _ _ h => h) (Or.inl ⟨by kernel_rfl, fun wq hSw => ?_⟩) hS ?_
              · go_simp
              simp only [Act.put, List.getElem_toArray, List.getElem_cons_zero, List.getElem_cons_succ, List.setIfInBounds_toArray, List.set_cons_zero, List.set_cons_succ]
              refine wpAnyH_take (i := 1) (v := .pointer (some ⟨w.heap.size, 11, none⟩)) rfl (by kernel_rfl) (by kernel_rfl) (by kernel_rfl) (fun _ _ _ h => h) (Or.inl ⟨by kernel_rfl, fun wq hSw => ?_⟩) hS ?_
              · go_simp
              simp only [Act.put, List.getElem_toArray, List.getElem_cons_zero, List.getElem_cons_succ, List.setIfInBounds_toArray, List.set_cons_zero, List.set_cons_succ]
              refine wpAnyH_take (i := 2) (v := .slice la LL lc) rfl (by kernel_rfl) (by kernel_rfl) (by kernel_rfl) (fun _ _ _ h => h) (Or.inl ⟨by kernel_rfl, fun wq hSw => ?_⟩) hS ?_
              · have p_ := keep_cell hSw c11; go_simp
              simp only [Act.put, List.getElem_toArray, List.getElem_cons_zero, List.getElem_cons_succ, List.setIfInBounds_toArray, List.set_cons_zero, List.set_cons_succ]
              refine wpAnyH_take (i := 3) (v := .int .i64 (LL : Int)) rfl (by kernel_rfl) (by kernel_rfl) (by kernel_rfl) (fun _ _ _ h => h) (Or.inl ⟨by kernel_rfl, fun wq hSw => ?_⟩) hS ?_
              · exact Sx.lenV (e := 22) (by kernel_rfl) rfl rfl
              simp only [Act.put, List.getElem_toArray, List.getElem_cons_zero, List.getElem_cons_succ, List.setIfInBounds_toArray, List.set_cons_zero, List.set_cons_succ]
              refine wpAnyH_take (i := 4) (v := .int .i64 (KL : Int)) rfl (by kernel_rfl) (by kernel_rfl) (by kernel_rfl) (fun _ _ _ h => h) (Or.inl ⟨by kernel_rfl, fun wq hSw => ?_⟩) hS ?_
              · exact Sx.add rfl rfl rfl HX.out.2.1
              simp only [Act.put, List.getElem_toArray, List.getElem_cons_zero, List.getElem_cons_succ, List.setIfInBounds_toArray, List.set_cons_zero, List.set_cons_succ]
              refine wpAnyH_take (i := 5) (v := .int .i64 (j : Int)) rfl (by kernel_rfl) (by kernel_rfl) (by kernel_rfl) (fun _ _ _ h => h) (Or.inl ⟨by kernel_rfl, fun wq hSw => ?_⟩) hS ?_
              · go_simp
              simp only [Act.put, List.getElem_toArray, List.getElem_cons_zero, List.getElem_cons_succ, List.setIfInBounds_toArray, List.set_cons_zero, List.set_cons_succ]
              refine wpAnyH_take (i := 6) (v := .int .i64 (KJ : Int)) rfl (by kernel_rfl) (by kernel_rfl) (by kernel_rfl) (fun _ _ _ h => h) (Or.inl ⟨by kernel_rfl, fun wq hSw => ?_⟩) hS ?_
              · exact Sx.add rfl rfl rfl HX.out.2.2.1
              simp only [Act.put, List.getElem_toArray, List.getElem_cons_zero, List.getElem_cons_succ, List.setIfInBounds_toArray, List.set_cons_zero, List.set_cons_succ]
              refine wpAnyH_take (i := 9) (v := .pointer (some ⟨b4, 0, none⟩)) rfl (by kernel_rfl) (by kernel_rfl) (by kernel_rfl) (fun _ _ _ h => h) (Or.inl ⟨by kernel_rfl, fun wq hSw => ?_⟩) hS ?_
              · go_simp
              simp only [Act.put, List.getElem_toArray, List.getElem_cons_zero, List.getElem_cons_succ, List.setIfInBounds_toArray, List.set_cons_zero, List.set_cons_succ]
              refine wpAnyH_take (i := 10) (v := .int .u32 (CO : Int)) rfl (by kernel_rfl) (by kernel_rfl) (by kernel_rfl) (fun _ _ _ h => h) (Or.inl ⟨by kernel_rfl, fun wq hSw => ?_⟩) hS ?_
              · have p_ := keep_cell hSw p0; go_simp
              simp only [Act.put, List.getElem_toArray, List.getElem_cons_zero, List.getElem_cons_succ, List.setIfInBounds_toArray, List.set_cons_zero, List.set_cons_succ]
              refine wpAnyH_take (i := 11) (v := .pointer (some ⟨wr.heap.size, 1, none⟩)) rfl (by kernel_rfl) (by kernel_rfl) (by kernel_rfl) (fun _ _ _ h => h) (Or.inl ⟨by kernel_rfl, fun wq hSw => ?_⟩) hS ?_
              · go_simp
              simp only [Act.put, List.getElem_toArray, List.getElem_cons_zero, List.getElem_cons_succ, List.setIfInBounds_toArray, List.set_cons_zero, List.set_cons_succ]
              refine wpAnyH_take (i := 12) (v := .int .u32 (SV : Int)) rfl (by kernel_rfl) (by kernel_rfl) (by kernel_rfl) (fun _ _ _ h => h) (Or.inl ⟨by kernel_rfl, fun wq hSw => ?_⟩) hS ?_
              · have p_ := keep_cell hSw q1; go_simp
              simp only [Act.put, List.getElem_toArray, List.getElem_cons_zero, List.getElem_cons_succ, List.setIfInBounds_toArray, List.set_cons_zero, List.set_cons_succ]
              refine wpAnyH_take (i := 13) (v := .int .u32 (VC : Int)) rfl (by kernel_rfl) (by kernel_rfl) (by kernel_rfl) (fun _ _ _ h => h) (Or.inl ⟨by kernel_rfl, fun wq hSw => ?_⟩) hS ?_
              · exact Sx.add rfl rfl rfl HX.out.2.2.2.1
              simp only [Act.put, List.getElem_toArray, List.getElem_cons_zero, List.getElem_cons_succ, List.setIfInBounds_toArray, List.set_cons_zero, List.set_cons_succ]
              refine wpAnyH_take (i := 15) (v := .pointer (some ⟨b4, 2, none⟩)) rfl (by kernel_rfl) (by kernel_rfl) (by kernel_rfl) (fun _ _ _ h => h) (Or.inl ⟨by kernel_rfl, fun wq hSw => ?_⟩) hS ?_
              · go_simp
              simp only [Act.put, List.getElem_toArray, List.getElem_cons_zero, List.getElem_cons_succ, List.setIfInBounds_toArray, List.set_cons_zero, List.set_cons_succ]
              refine wpAnyH_take (i := 16) (v := .int .u32 (DA : Int)) rfl (by kernel_rfl) (by kernel_rfl) (by kernel_rfl) (fun _ _ _ h => h) (Or.inl ⟨by kernel_rfl, fun wq hSw => ?_⟩) hS ?_
              · have p_ := keep_cell hSw p2; go_simp
              simp only [Act.put, List.getElem_toArray, List.getElem_cons_zero, List.getElem_cons_succ, List.setIfInBounds_toArray, List.set_cons_zero, List.set_cons_succ]
              refine wpAnyH_take (i := 17) (v := .pointer (some ⟨wr.heap.size, 1, none⟩)) rfl (by kernel_rfl) (by kernel_rfl) (by kernel_rfl) (fun _ _ _ h => h) (Or.inl ⟨by kernel_rfl, fun wq hSw => ?_⟩) hS ?_
              · go_simp
              simp only [Act.put, List.getElem_toArray, List.getElem_cons_zero, List.getElem_cons_succ, List.setIfInBounds_toArray, List.set_cons_zero, List.set_cons_succ]
              refine wpAnyH_take (i := 18) (v := .int .u32 (SV : Int)) rfl (by kernel_rfl) (by kernel_rfl) (by kernel_rfl) (fun _ _ _ h => h) (Or.inl ⟨by kernel_rfl, fun wq hSw => ?_⟩) hS ?_
              · have p_ := keep_cell hSw q1; go_simp
              simp only [Act.put, List.getElem_toArray, List.getElem_cons_zero, List.getElem_cons_succ, List.setIfInBounds_toArray, List.set_cons_zero, List.set_cons_succ]
              refine wpAnyH_take (i := 19) (v := .int .u32 (VD : Int)) rfl (by kernel_rfl) (by kernel_rfl) (by kernel_rfl) (fun _ _ _ h => h) (Or.inl ⟨by kernel_rfl, fun wq hSw => ?_⟩) hS ?_
              · exact Sx.add rfl rfl rfl HX.out.2.2.2.2.1
              simp only [Act.put, List.getElem_toArray, List.getElem_cons_zero, List.getElem_cons_succ, List.setIfInBounds_toArray, List.set_cons_zero, List.set_cons_succ]
              refine wpAnyH_take (i := 22) (v := .pointer (some ⟨wr.heap.size, 4, none⟩)) rfl (by kernel_rfl) (by kernel_rfl) (by kernel_rfl) (fun _ _ _ h => h) (Or.inl ⟨by kernel_rfl, fun wq hSw => ?_⟩) hS ?_
              · go_simp
              simp only [Act.put, List.getElem_toArray, List.getElem_cons_zero, List.getElem_cons_succ, List.setIfInBounds_toArray, List.set_cons_zero, List.set_cons_succ]
              refine wpAnyH_take (i := 23) (v := .int .i64 SP) rfl (by kernel_rfl) (by kernel_rfl) (by kernel_rfl) (fun _ _ _ h => h) (Or.inl ⟨by kernel_rfl, fun wq hSw => ?_⟩) hS ?_
              · have p_ := keep_cell hSw q4; go_simp
              simp only [Act.put, List.getElem_toArray, List.getElem_cons_zero, List.getElem_cons_succ, List.setIfInBounds_toArray, List.set_cons_zero, List.set_cons_succ]
              refine wpAnyH_ready (rs := [7, 8]) (by kernel_rfl) (by simp) (AllReadyH.cons rfl (fun K hK => ?_) (AllReadyH.cons rfl (fun K hK => ?_) AllReadyH.nil))
              · refine if_yes (by kernel_rfl) ?_
                simp [go_sem]
                refine (K16g.out KJ VV b3 b5 _ (by have := HQ.out; have := HX.out; omega) HX.out.1 (HLU.out _ (below_tr HBR.out (below_tr HB7.out hS))).1 (HLU.out _ (below_tr HBR.out (below_tr HB7.out hS))).2.1).mono ?_
                rintro e w6 ⟨rfl, hb6⟩
                have hS := below_tr hS hb6
                refine hK.out _ _ hS (fun _ => ?_)
                clear hK K hb6
                try simp only [Act.put, List.getElem_toArray, List.getElem_cons_zero, List.getElem_cons_succ, List.setIfInBounds_toArray, List.set_cons_zero, List.set_cons_succ]
                refine wpAnyH_ready (rs := [8]) (by kernel_rfl) (by simp) (AllReadyH.cons rfl (fun K hK => ?_) AllReadyH.nil)
                refine if_yes (by kernel_rfl) ?_
                have hmm := @run_makeMap Tryz.prog 47 w6
                simp [go_sem, hmm]
                have m := map_made w6
                have hgm : W7.heap.size ≤ w6.heap.size := hS.size
                have hS := below_tr hS ((Below.refl w6.heap.size _).alloc (Nat.le_refl _) (.map #[] 0))
                refine hK.out _ _ hS (fun _ => ?_)
                clear hK K hmm
                generalize w6.alloc (.map #[] 0) = wm at hS m ⊢
                generalize w6.heap.size = mb at hgm m ⊢
                try simp only [Act.put, List.getElem_toArray, List.getElem_cons_zero, List.getElem_cons_succ, List.setIfInBounds_toArray, List.set_cons_zero, List.set_cons_succ]
                refine wpAnyH_ready (rs := [14, 20]) (by kernel_rfl) (by simp) (AllReadyH.cons rfl (fun K hK => ?_) (AllReadyH.cons rfl (fun K hK => ?_) AllReadyH.nil))
                · refine if_yes (by kernel_rfl) ?_
                  obtain ⟨wi14, hrun, hbi, m⟩ := map_ins ([pr 1 VC]) m 1 VC (by decide) HX.out.2.2.2.2.2.2.2.2.1 (ins1 VC) (Nat.le_of_ble_eq_true rfl)
                  replace hrun : (Instr.mapUpdate 47 (.map (some mb)) (.int .i64 1) (.int .u32 (VC : Int))).run Tryz.prog wm = .ok () wi14 := hrun
                  simp [go_sem, hrun]
                  have hS := hS.trans (hbi.mono hgm)
                  refine hK.out _ _ hS (fun _ => ?_)
                  clear hK K hrun hbi
                  try simp only [Act.put, List.getElem_toArray, List.getElem_cons_zero, List.getElem_cons_succ, List.setIfInBounds_toArray, List.set_cons_zero, List.set_cons_succ]
                  refine wpAnyH_ready (rs := [20]) (by kernel_rfl) (by simp) (AllReadyH.cons rfl (fun K hK => ?_) AllReadyH.nil)
                  refine if_yes (by kernel_rfl) ?_
                  obtain ⟨wi20, hrun, hbi, m⟩ := map_ins (two VC VD) m 2 VD (by decide) HX.out.2.2.2.2.2.2.2.2.2.1 (ins12 VC VD) (Nat.le_of_ble_eq_true rfl)
                  replace hrun : (Instr.mapUpdate 47 (.map (some mb)) (.int .i64 2) (.int .u32 (VD : Int))).run Tryz.prog wi14 = .ok () wi20 := hrun
                  simp [go_sem, hrun]
                  have hS := hS.trans (hbi.mono hgm)
                  refine hK.out _ _ hS (fun _ => ?_)
                  clear hK K hrun hbi
                  try simp only [Act.put, List.getElem_toArray, List.getElem_cons_zero, List.getElem_cons_succ, List.setIfInBounds_toArray, List.set_cons_zero, List.set_cons_succ]
                  refine wpAnyH_take (i := 21) (v := .map (some mb)) rfl (by kernel_rfl) (by kernel_rfl) (by kernel_rfl) (fun _ _ _ h => h) (Or.inl ⟨by kernel_rfl, fun wq9 hSw => ?_⟩) hS ?_
                  · exact Sx.mv rfl rfl
                  simp only [Act.put, List.getElem_toArray, List.getElem_cons_zero, List.getElem_cons_succ, List.setIfInBounds_toArray, List.set_cons_zero, List.set_cons_succ]
                  refine wpAnyH_ready (rs := [24]) (by kernel_rfl) (by simp) (AllReadyH.cons rfl (fun K hK => ?_) AllReadyH.nil)
                  refine if_yes (by kernel_rfl) ?_
                  have hrun := map_look m SP ⟨HX.out.2.2.2.2.2.2.2.2.2.2.1, HX.out.2.2.2.2.2.2.2.2.2.2.2⟩
                  rw [← HX.out.2.2.2.2.2.2.2.1] at hrun
                  simp [go_sem, hrun]
                  refine hK.out _ _ hS (fun _ => ?_)
                  clear hK K hrun
                  try simp only [Act.put, List.getElem_toArray, List.getElem_cons_zero, List.getElem_cons_succ, List.setIfInBounds_toArray, List.set_cons_zero, List.set_cons_succ]
                  refine wpAnyH_take (i := 25) (v := .bool false) rfl (by kernel_rfl) (by kernel_rfl) (by kernel_rfl) (fun _ _ _ h => h) (Or.inl ⟨by kernel_rfl, fun wq9 hSw => ?_⟩) hS ?_
                  · exact Sx.neI rfl rfl rfl (by simp)
                  simp only [Act.put, List.getElem_toArray, List.getElem_cons_zero, List.getElem_cons_succ, List.setIfInBounds_toArray, List.set_cons_zero, List.set_cons_succ]
                  refine wpAnyH_done (by kernel_rfl) ?_ _
                  have HB9 : Hid (Below wr0.heap.size wr0 _) := below_tr HB7.out hS
                  clear hS p0 p2 q0 q1 q2 q3 q4 r0 r1 r2 r3 r4 c11 m
                  have hlt := HX.out.2.2.2.2.2.1
                  have hNb : GL ≤ 60 := by have := HQ.out; omega
                  go_wp2
                  go_roundw
                  case rel => exact ⟨j + 1, by go_num, hlt, HB9.out⟩
                  case measure => simp [intOf]; omega
                · refine if_yes (by kernel_rfl) ?_
                  obtain ⟨wi20, hrun, hbi, m⟩ := map_ins ([pr 2 VD]) m 2 VD (by decide) HX.out.2.2.2.2.2.2.2.2.2.1 (ins2 VD) (Nat.le_of_ble_eq_true rfl)
                  replace hrun : (Instr.mapUpdate 47 (.map (some mb)) (.int .i64 2) (.int .u32 (VD : Int))).run Tryz.prog wm = .ok () wi20 := hrun
                  simp [go_sem, hrun]
                  have hS := hS.trans (hbi.mono hgm)
                  refine hK.out _ _ hS (fun _ => ?_)
                  clear hK K hrun hbi
                  try simp only [Act.put, List.getElem_toArray, List.getElem_cons_zero, List.getElem_cons_succ, List.setIfInBounds_toArray, List.set_cons_zero, List.set_cons_succ]
                  refine wpAnyH_ready (rs := [14]) (by kernel_rfl) (by simp) (AllReadyH.cons rfl (fun K hK => ?_) AllReadyH.nil)
                  refine if_yes (by kernel_rfl) ?_
                  obtain ⟨wi14, hrun, hbi, m⟩ := map_ins (two VC VD) m 1 VC (by decide) HX.out.2.2.2.2.2.2.2.2.1 (ins21 VC VD) (Nat.le_of_ble_eq_true rfl)
                  replace hrun : (Instr.mapUpdate 47 (.map (some mb)) (.int .i64 1) (.int .u32 (VC : Int))).run Tryz.prog wi20 = .ok () wi14 := hrun
                  simp [go_sem, hrun]
                  have hS := hS.trans (hbi.mono hgm)
                  refine hK.out _ _ hS (fun _ => ?_)
                  clear hK K hrun hbi
                  try simp only [Act.put, List.getElem_toArray, List.getElem_cons_zero, List.getElem_cons_succ, List.setIfInBounds_toArray, List.set_cons_zero, List.set_cons_succ]
                  refine wpAnyH_take (i := 21) (v := .map (some mb)) rfl (by kernel_rfl) (by kernel_rfl) (by kernel_rfl) (fun _ _ _ h => h) (Or.inl ⟨by kernel_rfl, fun wq9 hSw => ?_⟩) hS ?_
                  · exact Sx.mv rfl rfl
                  simp only [Act.put, List.getElem_toArray, List.getElem_cons_zero, List.getElem_cons_succ, List.setIfInBounds_toArray, List.set_cons_zero, List.set_cons_succ]
                  refine wpAnyH_ready (rs := [24]) (by kernel_rfl) (by simp) (AllReadyH.cons rfl (fun K hK => ?_) AllReadyH.nil)
                  refine if_yes (by kernel_rfl) ?_
                  have hrun := map_look m SP ⟨HX.out.2.2.2.2.2.2.2.2.2.2.1, HX.out.2.2.2.2.2.2.2.2.2.2.2⟩
                  rw [← HX.out.2.2.2.2.2.2.2.1] at hrun
                  simp [go_sem, hrun]
                  refine hK.out _ _ hS (fun _ => ?_)
                  clear hK K hrun
                  try simp only [Act.put, List.getElem_toArray, List.getElem_cons_zero, List.getElem_cons_succ, List.setIfInBounds_toArray, List.set_cons_zero, List.set_cons_succ]
                  refine wpAnyH_take (i := 25) (v := .bool false) rfl (by kernel_rfl) (by kernel_rfl) (by kernel_rfl) (fun _ _ _ h => h) (Or.inl ⟨by kernel_rfl, fun wq9 hSw => ?_⟩) hS ?_
                  · exact Sx.neI rfl rfl rfl (by simp)
                  simp only [Act.put, List.getElem_toArray, List.getElem_cons_zero, List.getElem_cons_succ, List.setIfInBounds_toArray, List.set_cons_zero, List.set_cons_succ]
                  refine wpAnyH_done (by kernel_rfl) ?_ _
                  have HB9 : Hid (Below wr0.heap.size wr0 _) := below_tr HB7.out hS
                  clear hS p0 p2 q0 q1 q2 q3 q4 r0 r1 r2 r3 r4 c11 m
                  have hlt := HX.out.2.2.2.2.2.1
                  have hNb : GL ≤ 60 := by have := HQ.out; omega
                  go_wp2
                  go_roundw
                  case rel => exact ⟨j + 1, by go_num, hlt, HB9.out⟩
                  case measure => simp [intOf]; omega
              · refine if_yes (by kernel_rfl) ?_
                have hmm := @run_makeMap Tryz.prog 47 W70
                simp [go_sem, hmm]
                have m := map_made W70
                have hgm : W7.heap.size ≤ W70.heap.size := hS.size
                have hS := below_tr hS ((Below.refl W70.heap.size _).alloc (Nat.le_refl _) (.map #[] 0))
                refine hK.out _ _ hS (fun _ => ?_)
                clear hK K hmm
                generalize W70.alloc (.map #[] 0) = wm at hS m ⊢
                generalize W70.heap.size = mb at hgm m ⊢
                try simp only [Act.put, List.getElem_toArray, List.getElem_cons_zero, List.getElem_cons_succ, List.setIfInBounds_toArray, List.set_cons_zero, List.set_cons_succ]
                refine wpAnyH_ready (rs := [7, 14, 20]) (by kernel_rfl) (by simp) (AllReadyH.cons rfl (fun K hK => ?_) (AllReadyH.cons rfl (fun K hK => ?_) (AllReadyH.cons rfl (fun K hK => ?_) AllReadyH.nil)))
                · refine if_yes (by kernel_rfl) ?_
                  simp [go_sem]
                  refine (K16g.out KJ VV b3 b5 _ (by have := HQ.out; have := HX.out; omega) HX.out.1 (HLU.out _ (below_tr HBR.out (below_tr HB7.out hS))).1 (HLU.out _ (below_tr HBR.out (below_tr HB7.out hS))).2.1).mono ?_
                  rintro e w6 ⟨rfl, hb6⟩
                  have hS := below_tr hS hb6
                  have m := m.keep hb6
                  refine hK.out _ _ hS (fun _ => ?_)
                  clear hK K hb6
                  try simp only [Act.put, List.getElem_toArray, List.getElem_cons_zero, List.getElem_cons_succ, List.setIfInBounds_toArray, List.set_cons_zero, List.set_cons_succ]
                  refine wpAnyH_ready (rs := [14, 20]) (by kernel_rfl) (by simp) (AllReadyH.cons rfl (fun K hK => ?_) (AllReadyH.cons rfl (fun K hK => ?_) AllReadyH.nil))
                  · refine if_yes (by kernel_rfl) ?_
                    obtain ⟨wi14, hrun, hbi, m⟩ := map_ins ([pr 1 VC]) m 1 VC (by decide) HX.out.2.2.2.2.2.2.2.2.1 (ins1 VC) (Nat.le_of_ble_eq_true rfl)
                    replace hrun : (Instr.mapUpdate 47 (.map (some mb)) (.int .i64 1) (.int .u32 (VC : Int))).run Tryz.prog w6 = .ok () wi14 := hrun
                    simp [go_sem, hrun]
                    have hS := hS.trans (hbi.mono hgm)
                    refine hK.out _ _ hS (fun _ => ?_)
                    clear hK K hrun hbi
                    try simp only [Act.put, List.getElem_toArray, List.getElem_cons_zero, List.getElem_cons_succ, List.setIfInBounds_toArray, List.set_cons_zero, List.set_cons_succ]
                    refine wpAnyH_ready (rs := [20]) (by kernel_rfl) (by simp) (AllReadyH.cons rfl (fun K hK => ?_) AllReadyH.nil)
                    refine if_yes (by kernel_rfl) ?_
                    obtain ⟨wi20, hrun, hbi, m⟩ := map_ins (two VC VD) m 2 VD (by decide) HX.out.2.2.2.2.2.2.2.2.2.1 (ins12 VC VD) (Nat.le_of_ble_eq_true rfl)
                    replace hrun : (Instr.mapUpdate 47 (.map (some mb)) (.int .i64 2) (.int .u32 (VD : Int))).run Tryz.prog wi14 = .ok () wi20 := hrun
                    simp [go_sem, hrun]
                    have hS := hS.trans (hbi.mono hgm)
                    refine hK.out _ _ hS (fun _ => ?_)
                    clear hK K hrun hbi
                    try simp only [Act.put, List.getElem_toArray, List.getElem_cons_zero, List.getElem_cons_succ, List.setIfInBounds_toArray, List.set_cons_zero, List.set_cons_succ]
                    refine wpAnyH_take (i := 21) (v := .map (some mb)) rfl (by kernel_rfl) (by kernel_rfl) (by kernel_rfl) (fun _ _ _ h => h) (Or.inl ⟨by kernel_rfl, fun wq9 hSw => ?_⟩) hS ?_
                    · exact Sx.mv rfl rfl
                    simp only [Act.put, List.getElem_toArray, List.getElem_cons_zero, List.getElem_cons_succ, List.setIfInBounds_toArray, List.set_cons_zero, List.set_cons_succ]
                    refine wpAnyH_ready (rs := [24]) (by kernel_rfl) (by simp) (AllReadyH.cons rfl (fun K hK => ?_) AllReadyH.nil)
                    refine if_yes (by kernel_rfl) ?_
                    have hrun := map_look m SP ⟨HX.out.2.2.2.2.2.2.2.2.2.2.1, HX.out.2.2.2.2.2.2.2.2.2.2.2⟩
                    rw [← HX.out.2.2.2.2.2.2.2.1] at hrun
                    simp [go_sem, hrun]
                    refine hK.out _ _ hS (fun _ => ?_)
                    clear hK K hrun
                    try simp only [Act.put, List.getElem_toArray, List.getElem_cons_zero, List.getElem_cons_succ, List.setIfInBounds_toArray, List.set_cons_zero, List.set_cons_succ]
                    refine wpAnyH_take (i := 25) (v := .bool false) rfl (by kernel_rfl) (by kernel_rfl) (by kernel_rfl) (fun _ _ _ h => h) (Or.inl ⟨by kernel_rfl, fun wq9 hSw => ?_⟩) hS ?_
                    · exact Sx.neI rfl rfl rfl (by simp)
                    simp only [Act.put, List.getElem_toArray, List.getElem_cons_zero, List.getElem_cons_succ, List.setIfInBounds_toArray, List.set_cons_zero, List.set_cons_succ]
                    refine wpAnyH_done (by kernel_rfl) ?_ _
                    have HB9 : Hid (Below wr0.heap.size wr0 _) := below_tr HB7.out hS
                    clear hS p0 p2 q0 q1 q2 q3 q4 r0 r1 r2 r3 r4 c11 m
                    have hlt := HX.out.2.2.2.2.2.1
                    have hNb : GL ≤ 60 := by have := HQ.out; omega
                    go_wp2
                    go_roundw
                    case rel => exact ⟨j + 1, by go_num, hlt, HB9.out⟩
                    case measure => simp [intOf]; omega
                  · refine if_yes (by kernel_rfl) ?_
                    obtain ⟨wi20, hrun, hbi, m⟩ := map_ins ([pr 2 VD]) m 2 VD (by decide) HX.out.2.2.2.2.2.2.2.2.2.1 (ins2 VD) (Nat.le_of_ble_eq_true rfl)
                    replace hrun : (Instr.mapUpdate 47 (.map (some mb)) (.int .i64 2) (.int .u32 (VD : Int))).run Tryz.prog w6 = .ok () wi20 := hrun
                    simp [go_sem, hrun]
                    have hS := hS.trans (hbi.mono hgm)
                    refine hK.out _ _ hS (fun _ => ?_)
                    clear hK K hrun hbi
                    try simp only [Act.put, List.getElem_toArray, List.getElem_cons_zero, List.getElem_cons_succ, List.setIfInBounds_toArray, List.set_cons_zero, List.set_cons_succ]
                    refine wpAnyH_ready (rs := [14]) (by kernel_rfl) (by simp) (AllReadyH.cons rfl (fun K hK => ?_) AllReadyH.nil)
                    refine if_yes (by kernel_rfl) ?_
                    obtain ⟨wi14, hrun, hbi, m⟩ := map_ins (two VC VD) m 1 VC (by decide) HX.out.2.2.2.2.2.2.2.2.1 (ins21 VC VD) (Nat.le_of_ble_eq_true rfl)
                    replace hrun : (Instr.mapUpdate 47 (.map (some mb)) (.int .i64 1) (.int .u32 (VC : Int))).run Tryz.prog wi20 = .ok () wi14 := hrun
                    simp [go_sem, hrun]
                    have hS := hS.trans (hbi.mono hgm)
                    refine hK.out _ _ hS (fun _ => ?_)
                    clear hK K hrun hbi
                    try simp only [Act.put, List.getElem_toArray, List.getElem_cons_zero, List.getElem_cons_succ, List.setIfInBounds_toArray, List.set_cons_zero, List.set_cons_succ]
                    refine wpAnyH_take (i := 21) (v := .map (some mb)) rfl (by kernel_rfl) (by kernel_rfl) (by kernel_rfl) (fun _ _ _ h => h) (Or.inl ⟨by kernel_rfl, fun wq9 hSw => ?_⟩) hS ?_
                    · exact Sx.mv rfl rfl
                    simp only [Act.put, List.getElem_toArray, List.getElem_cons_zero, List.getElem_cons_succ, List.setIfInBounds_toArray, List.set_cons_zero, List.set_cons_succ]
                    refine wpAnyH_ready (rs := [24]) (by kernel_rfl) (by simp) (AllReadyH.cons rfl (fun K hK => ?_) AllReadyH.nil)
                    refine if_yes (by kernel_rfl) ?_
                    have hrun := map_look m SP ⟨HX.out.2.2.2.2.2.2.2.2.2.2.1, HX.out.2.2.2.2.2.2.2.2.2.2.2⟩
                    rw [← HX.out.2.2.2.2.2.2.2.1] at hrun
                    simp [go_sem, hrun]
                    refine hK.out _ _ hS (fun _ => ?_)
                    clear hK K hrun
                    try simp only [Act.put, List.getElem_toArray, List.getElem_cons_zero, List.getElem_cons_succ, List.setIfInBounds_toArray, List.set_cons_zero, List.set_cons_succ]
                    refine wpAnyH_take (i := 25) (v := .bool false) rfl (by kernel_rfl) (by kernel_rfl) (by kernel_rfl) (fun _ _ _ h => h) (Or.inl ⟨by kernel_rfl, fun wq9 hSw => ?_⟩) hS ?_
                    · exact Sx.neI rfl rfl rfl (by simp)
                    simp only [Act.put, List.getElem_toArray, List.getElem_cons_zero, List.getElem_cons_succ, List.setIfInBounds_toArray, List.set_cons_zero, List.set_cons_succ]
                    refine wpAnyH_done (by kernel_rfl) ?_ _
                    have HB9 : Hid (Below wr0.heap.size wr0 _) := below_tr HB7.out hS
                    clear hS p0 p2 q0 q1 q2 q3 q4 r0 r1 r2 r3 r4 c11 m
                    have hlt := HX.out.2.2.2.2.2.1
                    have hNb : GL ≤ 60 := by have := HQ.out; omega
                    go_wp2
                    go_roundw
                    case rel => exact ⟨j + 1, by go_num, hlt, HB9.out⟩
                    case measure => simp [intOf]; omega
                · refine if_yes (by kernel_rfl) ?_
                  obtain ⟨wi14, hrun, hbi, m⟩ := map_ins ([pr 1 VC]) m 1 VC (by decide) HX.out.2.2.2.2.2.2.2.2.1 (ins1 VC) (Nat.le_of_ble_eq_true rfl)
                  replace hrun : (Instr.mapUpdate 47 (.map (some mb)) (.int .i64 1) (.int .u32 (VC : Int))).run Tryz.prog wm = .ok () wi14 := hrun
                  simp [go_sem, hrun]
                  have hS := hS.trans (hbi.mono hgm)
                  refine hK.out _ _ hS (fun _ => ?_)
                  clear hK K hrun hbi
                  try simp only [Act.put, List.getElem_toArray, List.getElem_cons_zero, List.getElem_cons_succ, List.setIfInBounds_toArray, List.set_cons_zero, List.set_cons_succ]
                  refine wpAnyH_ready (rs := [7, 20]) (by kernel_rfl) (by simp) (AllReadyH.cons rfl (fun K hK => ?_) (AllReadyH.cons rfl (fun K hK => ?_) AllReadyH.nil))
                  · refine if_yes (by kernel_rfl) ?_
                    simp [go_sem]
                    refine (K16g.out KJ VV b3 b5 _ (by have := HQ.out; have := HX.out; omega) HX.out.1 (HLU.out _ (below_tr HBR.out (below_tr HB7.out hS))).1 (HLU.out _ (below_tr HBR.out (below_tr HB7.out hS))).2.1).mono ?_
                    rintro e w6 ⟨rfl, hb6⟩
                    have hS := below_tr hS hb6
                    have m := m.keep hb6
                    refine hK.out _ _ hS (fun _ => ?_)
                    clear hK K hb6
                    try simp only [Act.put, List.getElem_toArray, List.getElem_cons_zero, List.getElem_cons_succ, List.setIfInBounds_toArray, List.set_cons_zero, List.set_cons_succ]
                    refine wpAnyH_ready (rs := [20]) (by kernel_rfl) (by simp) (AllReadyH.cons rfl (fun K hK => ?_) AllReadyH.nil)
                    refine if_yes (by kernel_rfl) ?_
                    obtain ⟨wi20, hrun, hbi, m⟩ := map_ins (two VC VD) m 2 VD (by decide) HX.out.2.2.2.2.2.2.2.2.2.1 (ins12 VC VD) (Nat.le_of_ble_eq_true rfl)
                    replace hrun : (Instr.mapUpdate 47 (.map (some mb)) (.int .i64 2) (.int .u32 (VD : Int))).run Tryz.prog w6 = .ok () wi20 := hrun
                    simp [go_sem, hrun]
                    have hS := hS.trans (hbi.mono hgm)
                    refine hK.out _ _ hS (fun _ => ?_)
                    clear hK K hrun hbi
                    try simp only [Act.put, List.getElem_toArray, List.getElem_cons_zero, List.getElem_cons_succ, List.setIfInBounds_toArray, List.set_cons_zero, List.set_cons_succ]
                    refine wpAnyH_take (i := 21) (v := .map (some mb)) rfl (by kernel_rfl) (by kernel_rfl) (by kernel_rfl) (fun _ _ _ h => h) (Or.inl ⟨by kernel_rfl, fun wq9 hSw => ?_⟩) hS ?_
                    · exact Sx.mv rfl rfl
                    simp only [Act.put, List.getElem_toArray, List.getElem_cons_zero, List.getElem_cons_succ, List.setIfInBounds_toArray, List.set_cons_zero, List.set_cons_succ]
                    refine wpAnyH_ready (rs := [24]) (by kernel_rfl) (by simp) (AllReadyH.cons rfl (fun K hK => ?_) AllReadyH.nil)
                    refine if_yes (by kernel_rfl) ?_
                    have hrun := map_look m SP ⟨HX.out.2.2.2.2.2.2.2.2.2.2.1, HX.out.2.2.2.2.2.2.2.2.2.2.2⟩
                    rw [← HX.out.2.2.2.2.2.2.2.1] at hrun
                    simp [go_sem, hrun]
                    refine hK.out _ _ hS (fun _ => ?_)
                    clear hK K hrun
                    try simp only [Act.put, List.getElem_toArray, List.getElem_cons_zero, List.getElem_cons_succ, List.setIfInBounds_toArray, List.set_cons_zero, List.set_cons_succ]
                    refine wpAnyH_take (i := 25) (v := .bool false) rfl (by kernel_rfl) (by kernel_rfl) (by kernel_rfl) (fun _ _ _ h => h) (Or.inl ⟨by kernel_rfl, fun wq9 hSw => ?_⟩) hS ?_
                    · exact Sx.neI rfl rfl rfl (by simp)
                    simp only [Act.put, List.getElem_toArray, List.getElem_cons_zero, List.getElem_cons_succ, List.setIfInBounds_toArray, List.set_cons_zero, List.set_cons_succ]
                    refine wpAnyH_done (by kernel_rfl) ?_ _
                    have HB9 : Hid (Below wr0.heap.size wr0 _) := below_tr HB7.out hS
                    clear hS p0 p2 q0 q1 q2 q3 q4 r0 r1 r2 r3 r4 c11 m
                    have hlt := HX.out.2.2.2.2.2.1
                    have hNb : GL ≤ 60 := by have := HQ.out; omega
                    go_wp2
                    go_roundw
                    case rel => exact ⟨j + 1, by go_num, hlt, HB9.out⟩
                    case measure => simp [intOf]; omega
                  · refine if_yes (by kernel_rfl) ?_
                    obtain ⟨wi20, hrun, hbi, m⟩ := map_ins (two VC VD) m 2 VD (by decide) HX.out.2.2.2.2.2.2.2.2.2.1 (ins12 VC VD) (Nat.le_of_ble_eq_true rfl)
                    replace hrun : (Instr.mapUpdate 47 (.map (some mb)) (.int .i64 2) (.int .u32 (VD : Int))).run Tryz.prog wi14 = .ok () wi20 := hrun
                    simp [go_sem, hrun]
                    have hS := hS.trans (hbi.mono hgm)
                    refine hK.out _ _ hS (fun _ => ?_)
                    clear hK K hrun hbi
                    try simp only [Act.put, List.getElem_toArray, List.getElem_cons_zero, List.getElem_cons_succ, List.setIfInBounds_toArray, List.set_cons_zero, List.set_cons_succ]
                    refine wpAnyH_take (i := 21) (v := .map (some mb)) rfl (by kernel_rfl) (by kernel_rfl) (by kernel_rfl) (fun _ _ _ h => h) (Or.inl ⟨by kernel_rfl, fun wq9 hSw => ?_⟩) hS ?_
                    · exact Sx.mv rfl rfl
                    simp only [Act.put, List.getElem_toArray, List.getElem_cons_zero, List.getElem_cons_succ, List.setIfInBounds_toArray, List.set_cons_zero, List.set_cons_succ]
                    refine wpAnyH_ready (rs := [7, 24]) (by kernel_rfl) (by simp) (AllReadyH.cons rfl (fun K hK => ?_) (AllReadyH.cons rfl (fun K hK => ?_) AllReadyH.nil))
                    · refine if_yes (by kernel_rfl) ?_
                      simp [go_sem]
                      refine (K16g.out KJ VV b3 b5 _ (by have := HQ.out; have := HX.out; omega) HX.out.1 (HLU.out _ (below_tr HBR.out (below_tr HB7.out hS))).1 (HLU.out _ (below_tr HBR.out (below_tr HB7.out hS))).2.1).mono ?_
                      rintro e w6 ⟨rfl, hb6⟩
                      have hS := below_tr hS hb6
                      have m := m.keep hb6
                      refine hK.out _ _ hS (fun _ => ?_)
                      clear hK K hb6
                      try simp only [Act.put, List.getElem_toArray, List.getElem_cons_zero, List.getElem_cons_succ, List.setIfInBounds_toArray, List.set_cons_zero, List.set_cons_succ]
                      refine wpAnyH_ready (rs := [24]) (by kernel_rfl) (by simp) (AllReadyH.cons rfl (fun K hK => ?_) AllReadyH.nil)
                      refine if_yes (by kernel_rfl) ?_
                      have hrun := map_look m SP ⟨HX.out.2.2.2.2.2.2.2.2.2.2.1, HX.out.2.2.2.2.2.2.2.2.2.2.2⟩
                      rw [← HX.out.2.2.2.2.2.2.2.1] at hrun
                      simp [go_sem, hrun]
                      refine hK.out _ _ hS (fun _ => ?_)
                      clear hK K hrun
                      try simp only [Act.put, List.getElem_toArray, List.getElem_cons_zero, List.getElem_cons_succ, List.setIfInBounds_toArray, List.set_cons_zero, List.set_cons_succ]
                      refine wpAnyH_take (i := 25) (v := .bool false) rfl (by kernel_rfl) (by kernel_rfl) (by kernel_rfl) (fun _ _ _ h => h) (Or.inl ⟨by kernel_rfl, fun wq9 hSw => ?_⟩) hS ?_
                      · exact Sx.neI rfl rfl rfl (by simp)
                      simp only [Act.put, List.getElem_toArray, List.getElem_cons_zero, List.getElem_cons_succ, List.setIfInBounds_toArray, List.set_cons_zero, List.set_cons_succ]
                      refine wpAnyH_done (by kernel_rfl) ?_ _
                      have HB9 : Hid (Below wr0.heap.size wr0 _) := below_tr HB7.out hS
                      clear hS p0 p2 q0 q1 q2 q3 q4 r0 r1 r2 r3 r4 c11 m
                      have hlt := HX.out.2.2.2.2.2.1
                      have hNb : GL ≤ 60 := by have := HQ.out; omega
                      go_wp2
                      go_roundw
                      case rel => exact ⟨j + 1, by go_num, hlt, HB9.out⟩
                      case measure => simp [intOf]; omega
                    · refine if_yes (by kernel_rfl) ?_
                      have hrun := map_look m SP ⟨HX.out.2.2.2.2.2.2.2.2.2.2.1, HX.out.2.2.2.2.2.2.2.2.2.2.2⟩
                      rw [← HX.out.2.2.2.2.2.2.2.1] at hrun
                      simp [go_sem, hrun]
                      refine hK.out _ _ hS (fun _ => ?_)
                      clear hK K hrun
                      try simp only [Act.put, List.getElem_toArray, List.getElem_cons_zero, List.getElem_cons_succ, List.setIfInBounds_toArray, List.set_cons_zero, List.set_cons_succ]
                      refine wpAnyH_ready (rs := [7]) (by kernel_rfl) (by simp) (AllReadyH.cons rfl (fun K hK => ?_) AllReadyH.nil)
                      refine if_yes (by kernel_rfl) ?_
                      simp [go_sem]
                      refine (K16g.out KJ VV b3 b5 _ (by have := HQ.out; have := HX.out; omega) HX.out.1 (HLU.out _ (below_tr HBR.out (below_tr HB7.out hS))).1 (HLU.out _ (below_tr HBR.out (below_tr HB7.out hS))).2.1).mono ?_
                      rintro e w6 ⟨rfl, hb6⟩
                      have hS := below_tr hS hb6
                      have m := m.keep hb6
                      refine hK.out _ _ hS (fun _ => ?_)
                      clear hK K hb6
                      try simp only [Act.put, List.getElem_toArray, List.getElem_cons_zero, List.getElem_cons_succ, List.setIfInBounds_toArray, List.set_cons_zero, List.set_cons_succ]
                      refine wpAnyH_take (i := 25) (v := .bool false) rfl (by kernel_rfl) (by kernel_rfl) (by kernel_rfl) (fun _ _ _ h => h) (Or.inl ⟨by kernel_rfl, fun wq9 hSw => ?_⟩) hS ?_
                      · exact Sx.neI rfl rfl rfl (by simp)
                      simp only [Act.put, List.getElem_toArray, List.getElem_cons_zero, List.getElem_cons_succ, List.setIfInBounds_toArray, List.set_cons_zero, List.set_cons_succ]
                      refine wpAnyH_done (by kernel_rfl) ?_ _
                      have HB9 : Hid (Below wr0.heap.size wr0 _) := below_tr HB7.out hS
                      clear hS p0 p2 q0 q1 q2 q3 q4 r0 r1 r2 r3 r4 c11 m
                      have hlt := HX.out.2.2.2.2.2.1
                      have hNb : GL ≤ 60 := by have := HQ.out; omega
                      go_wp2
                      go_roundw
                      case rel => exact ⟨j + 1, by go_num, hlt, HB9.out⟩
                      case measure => simp [intOf]; omega
                · refine if_yes (by kernel_rfl) ?_
                  obtain ⟨wi20, hrun, hbi, m⟩ := map_ins ([pr 2 VD]) m 2 VD (by decide) HX.out.2.2.2.2.2.2.2.2.2.1 (ins2 VD) (Nat.le_of_ble_eq_true rfl)
                  replace hrun : (Instr.mapUpdate 47 (.map (some mb)) (.int .i64 2) (.int .u32 (VD : Int))).run Tryz.prog wm = .ok () wi20 := hrun
                  simp [go_sem, hrun]
                  have hS := hS.trans (hbi.mono hgm)
                  refine hK.out _ _ hS (fun _ => ?_)
                  clear hK K hrun hbi
                  try simp only [Act.put, List.getElem_toArray, List.getElem_cons_zero, List.getElem_cons_succ, List.setIfInBounds_toArray, List.set_cons_zero, List.set_cons_succ]
                  refine wpAnyH_ready (rs := [7, 14]) (by kernel_rfl) (by simp) (AllReadyH.cons rfl (fun K hK => ?_) (AllReadyH.cons rfl (fun K hK => ?_) AllReadyH.nil))
                  · refine if_yes (by kernel_rfl) ?_
                    simp [go_sem]
                    refine (K16g.out KJ VV b3 b5 _ (by have := HQ.out; have := HX.out; omega) HX.out.1 (HLU.out _ (below_tr HBR.out (below_tr HB7.out hS))).1 (HLU.out _ (below_tr HBR.out (below_tr HB7.out hS))).2.1).mono ?_
                    rintro e w6 ⟨rfl, hb6⟩
                    have hS := below_tr hS hb6
                    have m := m.keep hb6
                    refine hK.out _ _ hS (fun _ => ?_)
                    clear hK K hb6
                    try simp only [Act.put, List.getElem_toArray, List.getElem_cons_zero, List.getElem_cons_succ, List.setIfInBounds_toArray, List.set_cons_zero, List.set_cons_succ]
                    refine wpAnyH_ready (rs := [14]) (by kernel_rfl) (by simp) (AllReadyH.cons rfl (fun K hK => ?_) AllReadyH.nil)
                    refine if_yes (by kernel_rfl) ?_
                    obtain ⟨wi14, hrun, hbi, m⟩ := map_ins (two VC VD) m 1 VC (by decide) HX.out.2.2.2.2.2.2.2.2.1 (ins21 VC VD) (Nat.le_of_ble_eq_true rfl)
                    replace hrun : (Instr.mapUpdate 47 (.map (some mb)) (.int .i64 1) (.int .u32 (VC : Int))).run Tryz.prog w6 = .ok () wi14 := hrun
                    simp [go_sem, hrun]
                    have hS := hS.trans (hbi.mono hgm)
                    refine hK.out _ _ hS (fun _ => ?_)
                    clear hK K hrun hbi
                    try simp only [Act.put, List.getElem_toArray, List.getElem_cons_zero, List.getElem_cons_succ, List.setIfInBounds_toArray, List.set_cons_zero, List.set_cons_succ]
                    refine wpAnyH_take (i := 21) (v := .map (some mb)) rfl (by kernel_rfl) (by kernel_rfl) (by kernel_rfl) (fun _ _ _ h => h) (Or.inl ⟨by kernel_rfl, fun wq9 hSw => ?_⟩) hS ?_
                    · exact Sx.mv rfl rfl
                    simp only [Act.put, List.getElem_toArray, List.getElem_cons_zero, List.getElem_cons_succ, List.setIfInBounds_toArray, List.set_cons_zero, List.set_cons_succ]
                    refine wpAnyH_ready (rs := [24]) (by kernel_rfl) (by simp) (AllReadyH.cons rfl (fun K hK => ?_) AllReadyH.nil)
                    refine if_yes (by kernel_rfl) ?_
                    have hrun := map_look m SP ⟨HX.out.2.2.2.2.2.2.2.2.2.2.1, HX.out.2.2.2.2.2.2.2.2.2.2.2⟩
                    rw [← HX.out.2.2.2.2.2.2.2.1] at hrun
                    simp [go_sem, hrun]
                    refine hK.out _ _ hS (fun _ => ?_)
                    clear hK K hrun
                    try simp only [Act.put, List.getElem_toArray, List.getElem_cons_zero, List.getElem_cons_succ, List.setIfInBounds_toArray, List.set_cons_zero, List.set_cons_succ]
                    refine wpAnyH_take (i := 25) (v := .bool false) rfl (by kernel_rfl) (by kernel_rfl) (by kernel_rfl) (fun _ _ _ h => h) (Or.inl ⟨by kernel_rfl, fun wq9 hSw => ?_⟩) hS ?_
                    · exact Sx.neI rfl rfl rfl (by simp)
                    simp only [Act.put, List.getElem_toArray, List.getElem_cons_zero, List.getElem_cons_succ, List.setIfInBounds_toArray, List.set_cons_zero, List.set_cons_succ]
                    refine wpAnyH_done (by kernel_rfl) ?_ _
                    have HB9 : Hid (Below wr0.heap.size wr0 _) := below_tr HB7.out hS
                    clear hS p0 p2 q0 q1 q2 q3 q4 r0 r1 r2 r3 r4 c11 m
                    have hlt := HX.out.2.2.2.2.2.1
                    have hNb : GL ≤ 60 := by have := HQ.out; omega
                    go_wp2
                    go_roundw
                    case rel => exact ⟨j + 1, by go_num, hlt, HB9.out⟩
                    case measure => simp [intOf]; omega
                  · refine if_yes (by kernel_rfl) ?_
                    obtain ⟨wi14, hrun, hbi, m⟩ := map_ins (two VC VD) m 1 VC (by decide) HX.out.2.2.2.2.2.2.2.2.1 (ins21 VC VD) (Nat.le_of_ble_eq_true rfl)
                    replace hrun : (Instr.mapUpdate 47 (.map (some mb)) (.int .i64 1) (.int .u32 (VC : Int))).run Tryz.prog wi20 = .ok () wi14 := hrun
                    simp [go_sem, hrun]
                    have hS := hS.trans (hbi.mono hgm)
                    refine hK.out _ _ hS (fun _ => ?_)
                    clear hK K hrun hbi
                    try simp only [Act.put, List.getElem_toArray, List.getElem_cons_zero, List.getElem_cons_succ, List.setIfInBounds_toArray, List.set_cons_zero, List.set_cons_succ]
                    refine wpAnyH_take (i := 21) (v := .map (some mb)) rfl (by kernel_rfl) (by kernel_rfl) (by kernel_rfl) (fun _ _ _ h => h) (Or.inl ⟨by kernel_rfl, fun wq9 hSw => ?_⟩) hS ?_
                    · exact Sx.mv rfl rfl
                    simp only [Act.put, List.getElem_toArray, List.getElem_cons_zero, List.getElem_cons_succ, List.setIfInBounds_toArray, List.set_cons_zero, List.set_cons_succ]
                    refine wpAnyH_ready (rs := [7, 24]) (by kernel_rfl) (by simp) (AllReadyH.cons rfl (fun K hK => ?_) (AllReadyH.cons rfl (fun K hK => ?_) AllReadyH.nil))
                    · refine if_yes (by kernel_rfl) ?_
                      simp [go_sem]
                      refine (K16g.out KJ VV b3 b5 _ (by have := HQ.out; have := HX.out; omega) HX.out.1 (HLU.out _ (below_tr HBR.out (below_tr HB7.out hS))).1 (HLU.out _ (below_tr HBR.out (below_tr HB7.out hS))).2.1).mono ?_
                      rintro e w6 ⟨rfl, hb6⟩
                      have hS := below_tr hS hb6
                      have m := m.keep hb6
                      refine hK.out _ _ hS (fun _ => ?_)
                      clear hK K hb6
                      try simp only [Act.put, List.getElem_toArray, List.getElem_cons_zero, List.getElem_cons_succ, List.setIfInBounds_toArray, List.set_cons_zero, List.set_cons_succ]
                      refine wpAnyH_ready (rs := [24]) (by kernel_rfl) (by simp) (AllReadyH.cons rfl (fun K hK => ?_) AllReadyH.nil)
                      refine if_yes (by kernel_rfl) ?_
                      have hrun := map_look m SP ⟨HX.out.2.2.2.2.2.2.2.2.2.2.1, HX.out.2.2.2.2.2.2.2.2.2.2.2⟩
                      rw [← HX.out.2.2.2.2.2.2.2.1] at hrun
                      simp [go_sem, hrun]
                      refine hK.out _ _ hS (fun _ => ?_)
                      clear hK K hrun
                      try simp only [Act.put, List.getElem_toArray, List.getElem_cons_zero, List.getElem_cons_succ, List.setIfInBounds_toArray, List.set_cons_zero, List.set_cons_succ]
                      refine wpAnyH_take (i := 25) (v := .bool false) rfl (by kernel_rfl) (by kernel_rfl) (by kernel_rfl) (fun _ _ _ h => h) (Or.inl ⟨by kernel_rfl, fun wq9 hSw => ?_⟩) hS ?_
                      · exact Sx.neI rfl rfl rfl (by simp)
                      simp only [Act.put, List.getElem_toArray, List.getElem_cons_zero, List.getElem_cons_succ, List.setIfInBounds_toArray, List.set_cons_zero, List.set_cons_succ]
                      refine wpAnyH_done (by kernel_rfl) ?_ _
                      have HB9 : Hid (Below wr0.heap.size wr0 _) := below_tr HB7.out hS
                      clear hS p0 p2 q0 q1 q2 q3 q4 r0 r1 r2 r3 r4 c11 m
                      have hlt := HX.out.2.2.2.2.2.1
                      have hNb : GL ≤ 60 := by have := HQ.out; omega
                      go_wp2
                      go_roundw
                      case rel => exact ⟨j + 1, by go_num, hlt, HB9.out⟩
                      case measure => simp [intOf]; omega
                    · refine if_yes (by kernel_rfl) ?_
                      have hrun := map_look m SP ⟨HX.out.2.2.2.2.2.2.2.2.2.2.1, HX.out.2.2.2.2.2.2.2.2.2.2.2⟩
                      rw [← HX.out.2.2.2.2.2.2.2.1] at hrun
                      simp [go_sem, hrun]
                      refine hK.out _ _ hS (fun _ => ?_)
                      clear hK K hrun
                      try simp only [Act.put, List.getElem_toArray, List.getElem_cons_zero, List.getElem_cons_succ, List.setIfInBounds_toArray, List.set_cons_zero, List.set_cons_succ]
                      refine wpAnyH_ready (rs := [7]) (by kernel_rfl) (by simp) (AllReadyH.cons rfl (fun K hK => ?_) AllReadyH.nil)
                      refine if_yes (by kernel_rfl) ?_
                      simp [go_sem]
                      refine (K16g.out KJ VV b3 b5 _ (by have := HQ.out; have := HX.out; omega) HX.out.1 (HLU.out _ (below_tr HBR.out (below_tr HB7.out hS))).1 (HLU.out _ (below_tr HBR.out (below_tr HB7.out hS))).2.1).mono ?_
                      rintro e w6 ⟨rfl, hb6⟩
                      have hS := below_tr hS hb6
                      have m := m.keep hb6
                      refine hK.out _ _ hS (fun _ => ?_)
                      clear hK K hb6
                      try simp only [Act.put, List.getElem_toArray, List.getElem_cons_zero, List.getElem_cons_succ, List.setIfInBounds_toArray, List.set_cons_zero, List.set_cons_succ]
                      refine wpAnyH_take (i := 25) (v := .bool false) rfl (by kernel_rfl) (by kernel_rfl) (by kernel_rfl) (fun _ _ _ h => h) (Or.inl ⟨by kernel_rfl, fun wq9 hSw => ?_⟩) hS ?_
                      · exact Sx.neI rfl rfl rfl (by simp)
                      simp only [Act.put, List.getElem_toArray, List.getElem_cons_zero, List.getElem_cons_succ, List.setIfInBounds_toArray, List.set_cons_zero, List.set_cons_succ]
                      refine wpAnyH_done (by kernel_rfl) ?_ _
                      have HB9 : Hid (Below wr0.heap.size wr0 _) := below_tr HB7.out hS
                      clear hS p0 p2 q0 q1 q2 q3 q4 r0 r1 r2 r3 r4 c11 m
                      have hlt := HX.out.2.2.2.2.2.1
                      have hNb : GL ≤ 60 := by have := HQ.out; omega
                      go_wp2
                      go_roundw
                      case rel => exact ⟨j + 1, by go_num, hlt, HB9.out⟩
                      case measure => simp [intOf]; omega
            · have hjG : GL = j := by omega
              have hki : ¬ (GL : Int) < (GL : Int) := by omega
              have HBF : Hid (Below w.heap.size w wr) := below_tr HWU.out (below_tr HBR.out hbv)
              subst hjG
              clear hj hbv hlt
              go_wp2_with fail
              refine (K8.out wr).mono ?_
              rintro e w9 ⟨rfl, hb9⟩
              go_wp2
              go_ret
              exact ⟨rfl, below_tr HBF.out hb9⟩
end Go.Proofs.YtgdflobcbhnimaaGreat
