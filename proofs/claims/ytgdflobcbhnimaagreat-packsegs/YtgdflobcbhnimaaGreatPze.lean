/- What is proved here: a library's file holds its parts. -/
import Derived.Test.YtgdflobcbhnimaaGreatPzc
import Derived.Test.YtgdflobcbhnimaaGreatPzd
import Derived.Test.YtgdflobcbhnimaaGreatSx
namespace Go.Proofs.YtgdflobcbhnimaaGreat
open Go.RowKit 
set_option linter.unusedVariables false
set_option linter.unusedSimpArgs false
set_option maxRecDepth 100000
theorem cell14 {w : World} {b : Nat} {vs : Array Value} (h : w.heap[b]? = some (.cells vs 28 (0, 0))) (i : Nat) {x : Value} (hx : vs[i]? = some x) : w.cell? ⟨b, i, none⟩ = some x := by
  simp [World.cell?, h, hx]
set_option maxHeartbeats 4000000 in
theorem holds_walk (l : Lb) (q : Lv) (w : World) (hv : LvIs l q w) (hbd : l.Bd) : Calls Tryz.prog 4 #[l.val q] w fun e w' => e = .returned (.bool true) ∧ Below w.heap.size w w' := by
  obtain ⟨W1, hW1, b1, n1, s1⟩ := box14 l q w
  have H1 : Hid (Below w.heap.size w W1) := b1
  have HLV : Hid (∀ w', Below w.heap.size w w' → LvIs l q w') := fun w' h => hv.keep h
  have K8 : Hid (∀ w', Calls Tryz.prog 8 #[] w' fun e w'' => e = .returned (.bool true) ∧ Below w'.heap.size w' w'') := fun w' => awake8 w'
  have K7 : Hid (∀ w', Below w.heap.size w w' → Calls Tryz.prog 7 #[l.val q] w' fun e w'' => ToldIf True w' e w'') := fun w' h => few7 l q w' (hv.keep h)
  have K10 : Hid (∀ w', Below w.heap.size w w' → Calls Tryz.prog 10 #[l.val q] w' fun e w'' => ToldIf (FitP l) w' e w'') := fun w' h => rfit10 l q w' (hv.keep h) hbd
  have K13 : Hid (∀ w', Below w.heap.size w w' → FitP l → Calls Tryz.prog 13 #[l.val q] w' fun e w'' => e = .returned (.string ⟨l.file.toArray⟩) ∧ Below w'.heap.size w' w'') := fun w' h hf => file13 l q w' hf (hv.keep h) hbd (fun w2 h2 => fit9 l q w2 hf ((hv.keep h).keep h2))
  have K11 : Hid (∀ w', Below w.heap.size w w' → FitP l → Calls Tryz.prog 11 #[l.val q] w' fun e w'' => e = .returned l.place.val ∧ Below w'.heap.size w' w'') := fun w' h hf => place11 l q w' hf (hv.keep h) hbd (fun w2 h2 => fit9 l q w2 hf ((hv.keep h).keep h2))
  have K15 : Hid (∀ w', FitP l → Calls Tryz.prog 15 #[.string ⟨l.file.toArray⟩] w' fun e w'' => (∃ v, e = .returned (.tuple #[l.lay.head.val v, .int .i64 0]) ∧ E.OwnG w'.heap.size w'' v l.lay.head.segs) ∧ Below w'.heap.size w' w'') := fun w' hf => by
    have h := E.rparse9 l.file (by have h1 := file_len hf; have h2 := sz_le hf 9; have h3 := at_le hf 9; omega) w'
    obtain ⟨p1, p2⟩ := file_parse hf
    rw [p1, p2] at h
    exact h
  obtain ⟨na, nc, hvn, _⟩ := id hv.n
  obtain ⟨ya, yc, hvy, _⟩ := id hv.s
  obtain ⟨ra, rc, hvr, _⟩ := id hv.r
  obtain ⟨la, lc, hvl, _⟩ := id hv.l
  have HFL : Hid (∀ hf : FitP l, l.file.length = l.lay.at_ 9 + l.data.length ∧ l.lay.at_ 7 + l.code.length ≤ l.lay.at_ 8 ∧ l.lay.at_ 8 ≤ l.lay.at_ 9 ∧ l.place.code = l.base + l.lay.at_ 7 ∧ l.place.got = l.base + l.lay.at_ 8 + 4096 ∧ l.place.data = l.base + l.lay.at_ 9 + 4096 ∧ l.place.fin = l.base + l.lay.at_ 9 + 4096 + l.data.length + l.bss ∧ l.lay.at_ 9 ≤ 65536 ∧ l.base % 4096 = 0 ∧ l.base ≤ 1073741824 ∧ l.data.length ≤ 4096 ∧ l.bss ≤ 8192 ∧ l.entry ≤ 4096) := fun hf => by
    have h1 := file_len hf
    have h9 : l.sz 9 = l.data.length := rfl
    have h7 : l.sz 7 = l.code.length := rfl
    have m7 : atN l.sz 7 + l.sz 7 ≤ atN l.sz 8 := at_mono l.sz 7
    have m8 : atN l.sz 8 + l.sz 8 ≤ atN l.sz 9 := at_mono l.sz 8
    have e7 := lay_at (l := l) 7 (by decide)
    have e8 := lay_at (l := l) 8 (by decide)
    have e9 := lay_at (l := l) 9 (by decide)
    have z9 := lay_sz2 (l := l) 9 (by decide)
    have p1 : l.place.code = l.base + l.lay.at_ 7 + 0 := rfl
    have p2 : l.place.got = l.base + l.lay.at_ 8 + 4096 := rfl
    have p3 : l.place.data = l.base + l.lay.at_ 9 + 4096 := rfl
    have p4 : l.place.fin = l.base + l.lay.at_ 8 + 4096 + (l.lay.at_ 9 + l.lay.size 9 - l.lay.at_ 8 + l.bss) := rfl
    have := (lay_ok hf).a 9
    refine ⟨by omega, by omega, by omega, by omega, p2, p3, by omega, this, hf.b0, hf.b1, hf.da, hf.bs, hf.en⟩
  have HFC : Hid (FitP l → (l.file.drop (l.lay.at_ 7)).take l.code.length = l.code ∧ l.file.drop (l.lay.at_ 9) = l.data) := fun hf => ⟨file_code hf, file_data hf⟩
  have hN : Hid (∀ w', Below W1.heap.size W1 w' → w'.heap[w.heap.size]? = some (.cells (l.cells q).toArray 28 (0, 0))) := fun w' h => n1.keep h
  have HEH : Hid (l.lay.head.shared = l.shared ∧ l.lay.head.entry = l.place.code + l.entry) := ⟨rfl, rfl⟩
  unfold Lb.val at K7 K10 K13 K11 ⊢
  unfold Lb.cells at K7 K10 K13 K11 hN hW1 ⊢
  unfold E.Ef.val at K15
  rw [HEH.out.1, HEH.out.2] at K15
  unfold Pl.val at K11
  rw [hvn, hvy, hvr, hvl] at K7 K10 K13 K11 hN hW1 ⊢
  obtain ⟨FP, hFP⟩ : ∃ P : Prop, P = FitP l := ⟨_, rfl⟩
  rw [← hFP] at K10 K13 K11 K15 HFL HFC
  obtain ⟨C, hC⟩ : ∃ B : ByteArray, B = ⟨l.code.toArray⟩ := ⟨_, rfl⟩
  have tC : C.toList = l.code := by rw [hC, bal]
  have zC : C.size = l.code.length := by rw [← bt_len, tC]
  simp only [← hC] at K7 K10 K13 K11 K15 hN hW1 ⊢
  obtain ⟨D, hD⟩ : ∃ B : ByteArray, B = ⟨l.data.toArray⟩ := ⟨_, rfl⟩
  have tD : D.toList = l.data := by rw [hD, bal]
  have zD : D.size = l.data.length := by rw [← bt_len, tD]
  simp only [← hD] at K7 K10 K13 K11 K15 hN hW1 ⊢
  obtain ⟨SN, hSN⟩ : ∃ B : ByteArray, B = ⟨l.soname.toArray⟩ := ⟨_, rfl⟩
  have tSN : SN.toList = l.soname := by rw [hSN, bal]
  have zSN : SN.size = l.soname.length := by rw [← bt_len, tSN]
  simp only [← hSN] at K7 K10 K13 K11 K15 hN hW1 ⊢
  obtain ⟨IP, hIP⟩ : ∃ B : ByteArray, B = ⟨l.interp.toArray⟩ := ⟨_, rfl⟩
  have tIP : IP.toList = l.interp := by rw [hIP, bal]
  have zIP : IP.size = l.interp.length := by rw [← bt_len, tIP]
  simp only [← hIP] at K7 K10 K13 K11 K15 hN hW1 ⊢
  obtain ⟨FB, hFB⟩ : ∃ B : ByteArray, B = ⟨l.file.toArray⟩ := ⟨_, rfl⟩
  have tFB : FB.toList = l.file := by rw [hFB, bal]
  have zFB : FB.size = l.file.length := by rw [← bt_len, tFB]
  simp only [← hFB] at K13 K15
  have HZ : Hid (C.size = l.code.length ∧ D.size = l.data.length ∧ FB.size = l.file.length) := ⟨zC, zD, zFB⟩
  have HTL : Hid (C.toList = l.code ∧ D.toList = l.data ∧ FB.toList = l.file) := ⟨tC, tD, tFB⟩
  have HBD : Hid (l.base < 4294967296 ∧ l.entry < 4294967296 ∧ l.bss < 4294967296) := ⟨hbd.b, hbd.e, hbd.s⟩
  clear hC hD hSN hIP hFB tC tD tSN tIP tFB zC zD zSN zIP zFB hvn hvy hvr hvl hv hbd hFP n1 b1 s1
  obtain ⟨SH, hSH⟩ : ∃ z, z = l.shared := ⟨_, rfl⟩
  obtain ⟨BA, hBA⟩ : ∃ z, z = l.base := ⟨_, rfl⟩
  obtain ⟨EN, hEN⟩ : ∃ z, z = l.entry := ⟨_, rfl⟩
  obtain ⟨BS, hBS⟩ : ∃ z, z = l.bss := ⟨_, rfl⟩
  obtain ⟨CO, hCO⟩ : ∃ z, z = l.place.code := ⟨_, rfl⟩
  obtain ⟨GT, hGT⟩ : ∃ z, z = l.place.got := ⟨_, rfl⟩
  obtain ⟨DA, hDA⟩ : ∃ z, z = l.place.data := ⟨_, rfl⟩
  obtain ⟨FI, hFI⟩ : ∃ z, z = l.place.fin := ⟨_, rfl⟩
  obtain ⟨A7, hA7⟩ : ∃ z, z = l.lay.at_ 7 := ⟨_, rfl⟩
  obtain ⟨A8, hA8⟩ : ∃ z, z = l.lay.at_ 8 := ⟨_, rfl⟩
  obtain ⟨A9, hA9⟩ : ∃ z, z = l.lay.at_ 9 := ⟨_, rfl⟩
  have HNUM : Hid (FP → FB.size = A9 + D.size ∧ A7 + C.size ≤ A8 ∧ A8 ≤ A9 ∧ CO = BA + A7 ∧ GT = BA + A8 + 4096 ∧ DA = BA + A9 + 4096 ∧ FI = BA + A9 + 4096 + D.size + BS ∧ A9 ≤ 65536 ∧ BA % 4096 = 0 ∧ BA ≤ 1073741824 ∧ D.size ≤ 4096 ∧ BS ≤ 8192 ∧ EN ≤ 4096) := fun hf => by
    have h := HFL.out hf
    rw [← HZ.out.1, ← HZ.out.2.1, ← HZ.out.2.2, ← hBA, ← hEN, ← hBS, ← hCO, ← hGT, ← hDA, ← hFI, ← hA7, ← hA8, ← hA9] at h
    exact h
  have HCUT : Hid (FP → (FB.toList.drop A7).take C.size = C.toList ∧ FB.toList.drop A9 = D.toList) := fun hf => by
    have h := HFC.out hf
    rw [← HTL.out.1, ← HTL.out.2.1, ← HTL.out.2.2, ← hA7, ← hA9, bt_len] at h
    exact h
  simp only [← hSH, ← hBA, ← hEN, ← hBS, ← hCO, ← hGT, ← hDA, ← hFI] at K7 K10 K13 K11 K15 hN hW1 ⊢
  clear hSH hBA hEN hBS hCO hGT hDA hFI hA7 hA8 hA9 HFL HFC HZ HTL HEH HBD
  obtain ⟨HE, hHE⟩ : ∃ z, z = CO + EN := ⟨_, rfl⟩
  rw [← hHE] at K15
  have HHE : Hid (HE = CO + EN) := hHE
  clear hHE
  generalize l.needed.length = NN at K7 K10 K13 K11 hN hW1 ⊢
  generalize l.syms.length = YY at K7 K10 K13 K11 hN hW1 ⊢
  generalize l.rels.length = RR at K7 K10 K13 K11 hN hW1 ⊢
  generalize l.locals.length = LL at K7 K10 K13 K11 hN hW1 ⊢
  generalize l.global = GG at K7 K10 K13 K11 hN hW1 ⊢
  generalize l.init = NI at K7 K10 K13 K11 hN hW1 ⊢
  have HN : Hid (∀ w', Below W1.heap.size W1 w' → w'.heap[w.heap.size]? = some (.cells #[.bool SH, .int .u32 (BA : Int), .int .u32 (EN : Int), .string C, .string D, .int .u32 (BS : Int), .slice na NN nc, .string SN, .string IP, .slice ya YY yc, .slice ra RR rc, .slice la LL lc, .int .i64 GG, .int .u32 (NI : Int)] 28 (0, 0))) := hN.out
  clear hN
  have nn := HN.out W1 (Below.refl _ _)
  have c0 : W1.cell? ⟨w.heap.size, 0, none⟩ = some (.bool SH) := cell14 nn 0 rfl
  have c1 : W1.cell? ⟨w.heap.size, 1, none⟩ = some (.int .u32 (BA : Int)) := cell14 nn 1 rfl
  have c2 : W1.cell? ⟨w.heap.size, 2, none⟩ = some (.int .u32 (EN : Int)) := cell14 nn 2 rfl
  have c3 : W1.cell? ⟨w.heap.size, 3, none⟩ = some (.string C) := cell14 nn 3 rfl
  have c4 : W1.cell? ⟨w.heap.size, 4, none⟩ = some (.string D) := cell14 nn 4 rfl
  have c5 : W1.cell? ⟨w.heap.size, 5, none⟩ = some (.int .u32 (BS : Int)) := cell14 nn 5 rfl
  have c6 : W1.cell? ⟨w.heap.size, 6, none⟩ = some (.slice na NN nc) := cell14 nn 6 rfl
  have c7 : W1.cell? ⟨w.heap.size, 7, none⟩ = some (.string SN) := cell14 nn 7 rfl
  have c8 : W1.cell? ⟨w.heap.size, 8, none⟩ = some (.string IP) := cell14 nn 8 rfl
  have c9 : W1.cell? ⟨w.heap.size, 9, none⟩ = some (.slice ya YY yc) := cell14 nn 9 rfl
  have c10 : W1.cell? ⟨w.heap.size, 10, none⟩ = some (.slice ra RR rc) := cell14 nn 10 rfl
  have c11 : W1.cell? ⟨w.heap.size, 11, none⟩ = some (.slice la LL lc) := cell14 nn 11 rfl
  have c12 : W1.cell? ⟨w.heap.size, 12, none⟩ = some (.int .i64 GG) := cell14 nn 12 rfl
  have c13 : W1.cell? ⟨w.heap.size, 13, none⟩ = some (.int .u32 (NI : Int)) := cell14 nn 13 rfl
  clear nn
  go_enter Tryz.func4, Tryz.ntmps4
  go_wp2_with fail
  refine (K7.out W1 H1.out).mono ?_
  rintro e w2 ⟨f7, rfl, hb2, _⟩
  have H2 : Hid (Below W1.heap.size W1 w2) := hb2
  have HW2 : Hid (Below w.heap.size w w2) := below_tr H1.out hb2
  clear c0 c1 c2 c3 c4 c5 c6 c7 c8 c9 c10 c11 c12 c13
  clear hb2 hW1
  have nn := HN.out w2 H2.out
  have c0 : w2.cell? ⟨w.heap.size, 0, none⟩ = some (.bool SH) := cell14 nn 0 rfl
  have c1 : w2.cell? ⟨w.heap.size, 1, none⟩ = some (.int .u32 (BA : Int)) := cell14 nn 1 rfl
  have c2 : w2.cell? ⟨w.heap.size, 2, none⟩ = some (.int .u32 (EN : Int)) := cell14 nn 2 rfl
  have c3 : w2.cell? ⟨w.heap.size, 3, none⟩ = some (.string C) := cell14 nn 3 rfl
  have c4 : w2.cell? ⟨w.heap.size, 4, none⟩ = some (.string D) := cell14 nn 4 rfl
  have c5 : w2.cell? ⟨w.heap.size, 5, none⟩ = some (.int .u32 (BS : Int)) := cell14 nn 5 rfl
  have c6 : w2.cell? ⟨w.heap.size, 6, none⟩ = some (.slice na NN nc) := cell14 nn 6 rfl
  have c7 : w2.cell? ⟨w.heap.size, 7, none⟩ = some (.string SN) := cell14 nn 7 rfl
  have c8 : w2.cell? ⟨w.heap.size, 8, none⟩ = some (.string IP) := cell14 nn 8 rfl
  have c9 : w2.cell? ⟨w.heap.size, 9, none⟩ = some (.slice ya YY yc) := cell14 nn 9 rfl
  have c10 : w2.cell? ⟨w.heap.size, 10, none⟩ = some (.slice ra RR rc) := cell14 nn 10 rfl
  have c11 : w2.cell? ⟨w.heap.size, 11, none⟩ = some (.slice la LL lc) := cell14 nn 11 rfl
  have c12 : w2.cell? ⟨w.heap.size, 12, none⟩ = some (.int .i64 GG) := cell14 nn 12 rfl
  have c13 : w2.cell? ⟨w.heap.size, 13, none⟩ = some (.int .u32 (NI : Int)) := cell14 nn 13 rfl
  clear nn
  cases f7 with
  | false =>
    go_wp2_with fail
    refine (K8.out w2).mono ?_
    rintro e w3 ⟨rfl, hb3⟩
    go_wp2
    go_ret
    exact ⟨rfl, below_tr HW2.out hb3⟩
  | true =>
    go_wp2_with fail
    refine (K10.out w2 HW2.out).mono ?_
    rintro e w3 ⟨f10, rfl, hb3, hfit⟩
    have H3 : Hid (Below W1.heap.size W1 w3) := below_tr H2.out hb3
    have HW3 : Hid (Below w.heap.size w w3) := below_tr HW2.out hb3
    clear c0 c1 c2 c3 c4 c5 c6 c7 c8 c9 c10 c11 c12 c13
    clear hb3
    have nn := HN.out w3 H3.out
    have c0 : w3.cell? ⟨w.heap.size, 0, none⟩ = some (.bool SH) := cell14 nn 0 rfl
    have c1 : w3.cell? ⟨w.heap.size, 1, none⟩ = some (.int .u32 (BA : Int)) := cell14 nn 1 rfl
    have c2 : w3.cell? ⟨w.heap.size, 2, none⟩ = some (.int .u32 (EN : Int)) := cell14 nn 2 rfl
    have c3 : w3.cell? ⟨w.heap.size, 3, none⟩ = some (.string C) := cell14 nn 3 rfl
    have c4 : w3.cell? ⟨w.heap.size, 4, none⟩ = some (.string D) := cell14 nn 4 rfl
    have c5 : w3.cell? ⟨w.heap.size, 5, none⟩ = some (.int .u32 (BS : Int)) := cell14 nn 5 rfl
    have c6 : w3.cell? ⟨w.heap.size, 6, none⟩ = some (.slice na NN nc) := cell14 nn 6 rfl
    have c7 : w3.cell? ⟨w.heap.size, 7, none⟩ = some (.string SN) := cell14 nn 7 rfl
    have c8 : w3.cell? ⟨w.heap.size, 8, none⟩ = some (.string IP) := cell14 nn 8 rfl
    have c9 : w3.cell? ⟨w.heap.size, 9, none⟩ = some (.slice ya YY yc) := cell14 nn 9 rfl
    have c10 : w3.cell? ⟨w.heap.size, 10, none⟩ = some (.slice ra RR rc) := cell14 nn 10 rfl
    have c11 : w3.cell? ⟨w.heap.size, 11, none⟩ = some (.slice la LL lc) := cell14 nn 11 rfl
    have c12 : w3.cell? ⟨w.heap.size, 12, none⟩ = some (.int .i64 GG) := cell14 nn 12 rfl
    have c13 : w3.cell? ⟨w.heap.size, 13, none⟩ = some (.int .u32 (NI : Int)) := cell14 nn 13 rfl
    clear nn
    cases f10 with
    | false =>
      go_wp2_with fail
      refine (K8.out w3).mono ?_
      rintro e w4 ⟨rfl, hb4⟩
      go_wp2
      go_ret
      exact ⟨rfl, below_tr HW3.out hb4⟩
    | true =>
      have hf : FP := hfit rfl
      go_wp2_with fail
      refine (K13.out w3 HW3.out hf).mono ?_
      rintro e w4 ⟨rfl, hb4⟩
      have H4 : Hid (Below W1.heap.size W1 w4) := below_tr H3.out hb4
      have HW4 : Hid (Below w.heap.size w w4) := below_tr HW3.out hb4
      clear c0 c1 c2 c3 c4 c5 c6 c7 c8 c9 c10 c11 c12 c13
      clear hb4
      have nn := HN.out w4 H4.out
      have c0 : w4.cell? ⟨w.heap.size, 0, none⟩ = some (.bool SH) := cell14 nn 0 rfl
      have c1 : w4.cell? ⟨w.heap.size, 1, none⟩ = some (.int .u32 (BA : Int)) := cell14 nn 1 rfl
      have c2 : w4.cell? ⟨w.heap.size, 2, none⟩ = some (.int .u32 (EN : Int)) := cell14 nn 2 rfl
      have c3 : w4.cell? ⟨w.heap.size, 3, none⟩ = some (.string C) := cell14 nn 3 rfl
      have c4 : w4.cell? ⟨w.heap.size, 4, none⟩ = some (.string D) := cell14 nn 4 rfl
      have c5 : w4.cell? ⟨w.heap.size, 5, none⟩ = some (.int .u32 (BS : Int)) := cell14 nn 5 rfl
      have c6 : w4.cell? ⟨w.heap.size, 6, none⟩ = some (.slice na NN nc) := cell14 nn 6 rfl
      have c7 : w4.cell? ⟨w.heap.size, 7, none⟩ = some (.string SN) := cell14 nn 7 rfl
      have c8 : w4.cell? ⟨w.heap.size, 8, none⟩ = some (.string IP) := cell14 nn 8 rfl
      have c9 : w4.cell? ⟨w.heap.size, 9, none⟩ = some (.slice ya YY yc) := cell14 nn 9 rfl
      have c10 : w4.cell? ⟨w.heap.size, 10, none⟩ = some (.slice ra RR rc) := cell14 nn 10 rfl
      have c11 : w4.cell? ⟨w.heap.size, 11, none⟩ = some (.slice la LL lc) := cell14 nn 11 rfl
      have c12 : w4.cell? ⟨w.heap.size, 12, none⟩ = some (.int .i64 GG) := cell14 nn 12 rfl
      have c13 : w4.cell? ⟨w.heap.size, 13, none⟩ = some (.int .u32 (NI : Int)) := cell14 nn 13 rfl
      clear nn
      go_wp2_with fail
      refine (K11.out w4 HW4.out hf).mono ?_
      rintro e w5 ⟨rfl, hb5⟩
      obtain ⟨W6, hW6⟩ : ∃ z, w5.alloc (.cells #[.int .u32 (CO : Int), .int .u32 (GT : Int), .int .u32 (DA : Int), .int .u32 (FI : Int)] 32) = z := ⟨_, rfl⟩
      have b6 : Below w5.heap.size w5 W6 := by rw [← hW6]; exact (Below.refl _ _).alloc (Nat.le_refl _) _
      have HP : Hid (∀ w', Below W6.heap.size W6 w' → w'.cell? ⟨w5.heap.size, 0, none⟩ = some (.int .u32 (CO : Int)) ∧ w'.cell? ⟨w5.heap.size, 1, none⟩ = some (.int .u32 (GT : Int)) ∧ w'.cell? ⟨w5.heap.size, 2, none⟩ = some (.int .u32 (DA : Int)) ∧ w'.cell? ⟨w5.heap.size, 3, none⟩ = some (.int .u32 (FI : Int))) := fun w' h => by
        refine ⟨keep_cell h ?_, keep_cell h ?_, keep_cell h ?_, keep_cell h ?_⟩ <;> (rw [← hW6]; exact cell_newA _ _ _ _ _ _ rfl rfl)
      have H6 : Hid (Below W1.heap.size W1 W6) := below_tr (below_tr H4.out hb5) b6
      have HW6 : Hid (Below w.heap.size w W6) := below_tr H1.out H6.out
      clear c0 c1 c2 c3 c4 c5 c6 c7 c8 c9 c10 c11 c12 c13
      clear hb5 b6
      go_wp2_with fail
      refine (K15.out W6 hf).mono ?_
      rintro e w7 ⟨⟨v, rfl, hown⟩, hb7⟩
      obtain ⟨va, vc, rfl⟩ := hown.shape
      generalize l.lay.head.segs.length = LN
      obtain ⟨W8, hW8⟩ : ∃ z, w7.alloc (.cells #[.bool SH, .int .u32 (HE : Int), .slice va LN vc] 37) = z := ⟨_, rfl⟩
      have b8 : Below w7.heap.size w7 W8 := by rw [← hW8]; exact (Below.refl _ _).alloc (Nat.le_refl _) _
      have s0 : W8.cell? ⟨w7.heap.size, 0, none⟩ = some (.bool SH) := by rw [← hW8]; exact cell_newA _ _ _ _ _ _ rfl rfl
      have s1 : W8.cell? ⟨w7.heap.size, 1, none⟩ = some (.int .u32 (HE : Int)) := by rw [← hW8]; exact cell_newA _ _ _ _ _ _ rfl rfl
      obtain ⟨p0, p1, p2, p3⟩ := HP.out W8 (below_tr hb7 b8)
      have H8 : Hid (Below W1.heap.size W1 W8) := below_tr (below_tr H6.out hb7) b8
      have HW8 : Hid (Below w.heap.size w W8) := below_tr H1.out H8.out
      clear hown hb7 b8
      have nn := HN.out W8 H8.out
      have c0 : W8.cell? ⟨w.heap.size, 0, none⟩ = some (.bool SH) := cell14 nn 0 rfl
      have c1 : W8.cell? ⟨w.heap.size, 1, none⟩ = some (.int .u32 (BA : Int)) := cell14 nn 1 rfl
      have c2 : W8.cell? ⟨w.heap.size, 2, none⟩ = some (.int .u32 (EN : Int)) := cell14 nn 2 rfl
      have c3 : W8.cell? ⟨w.heap.size, 3, none⟩ = some (.string C) := cell14 nn 3 rfl
      have c4 : W8.cell? ⟨w.heap.size, 4, none⟩ = some (.string D) := cell14 nn 4 rfl
      have c5 : W8.cell? ⟨w.heap.size, 5, none⟩ = some (.int .u32 (BS : Int)) := cell14 nn 5 rfl
      have c6 : W8.cell? ⟨w.heap.size, 6, none⟩ = some (.slice na NN nc) := cell14 nn 6 rfl
      have c7 : W8.cell? ⟨w.heap.size, 7, none⟩ = some (.string SN) := cell14 nn 7 rfl
      have c8 : W8.cell? ⟨w.heap.size, 8, none⟩ = some (.string IP) := cell14 nn 8 rfl
      have c9 : W8.cell? ⟨w.heap.size, 9, none⟩ = some (.slice ya YY yc) := cell14 nn 9 rfl
      have c10 : W8.cell? ⟨w.heap.size, 10, none⟩ = some (.slice ra RR rc) := cell14 nn 10 rfl
      have c11 : W8.cell? ⟨w.heap.size, 11, none⟩ = some (.slice la LL lc) := cell14 nn 11 rfl
      have c12 : W8.cell? ⟨w.heap.size, 12, none⟩ = some (.int .i64 GG) := cell14 nn 12 rfl
      have c13 : W8.cell? ⟨w.heap.size, 13, none⟩ = some (.int .u32 (NI : Int)) := cell14 nn 13 rfl
      clear nn
      obtain ⟨q1, q2, q3, q4, q5, q6, q7, q8, q9, q10, q11, q12, q13⟩ := HNUM.out hf
      obtain ⟨A94, hA94⟩ : ∃ z, z = A9 + 4096 := ⟨_, rfl⟩
      obtain ⟨AC, hAC⟩ : ∃ z, z = A7 + C.size := ⟨_, rfl⟩
      have HF : Hid (IntKind.u32.wrap ((CO : Int) + (EN : Int)) = (HE : Int) ∧ IntKind.u32.wrap ((CO : Int) - (BA : Int)) = (A7 : Int) ∧ IntKind.i64.wrap (A7 : Int) = (A7 : Int) ∧ IntKind.u32.wrap ((DA : Int) - (BA : Int)) = (A94 : Int) ∧ IntKind.i64.wrap (A94 : Int) = (A94 : Int) ∧ IntKind.i64.wrap ((A94 : Int) - 4096) = (A9 : Int)) := by
        have := HHE.out
        exact ⟨Sx.w32 (by omega) (by omega), Sx.w32 (by omega) (by omega), Sx.w64 rfl (by omega), Sx.w32 (by omega) (by omega), Sx.w64 rfl (by omega), Sx.w64 (by omega) (by omega)⟩
      obtain ⟨DD, hDD⟩ : ∃ z, z = DA + D.size := ⟨_, rfl⟩
      obtain ⟨CC, hCC⟩ : ∃ z, z = CO + C.size := ⟨_, rfl⟩
      obtain ⟨GQ, hGQ⟩ : ∃ z, z = GT / 4096 := ⟨_, rfl⟩
      obtain ⟨CQ, hCQ⟩ : ∃ z, z = CC / 4096 := ⟨_, rfl⟩
      have HG : Hid (decide ((A7 : Int) < 0) = false ∧ decide ((A9 : Int) < 0) = false ∧ IntKind.i64.wrap ((A7 : Int) + (C.size : Int)) = (AC : Int) ∧ decide ((FB.size : Int) < (AC : Int)) = false ∧ IntKind.i64.wrap ((A9 : Int) + (D.size : Int)) = (FB.size : Int)) := 
        ⟨decide_eq_false (by omega), decide_eq_false (by omega), Sx.w64 (by omega) (by omega), decide_eq_false (by omega), Sx.w64 (by omega) (by omega)⟩
      have HJ : Hid (IntKind.u32.wrap (D.size : Int) = (D.size : Int) ∧ IntKind.u32.wrap ((DA : Int) + (D.size : Int)) = (DD : Int) ∧ IntKind.u32.wrap ((DD : Int) + (BS : Int)) = (FI : Int) ∧ IntKind.u32.wrap ((GT : Int).tdiv 4096) = (GQ : Int) ∧ IntKind.u32.wrap (C.size : Int) = (C.size : Int) ∧ IntKind.u32.wrap ((CO : Int) + (C.size : Int)) = (CC : Int) ∧ IntKind.u32.wrap ((CC : Int).tdiv 4096) = (CQ : Int) ∧ decide ((CQ : Int) < (GQ : Int)) = true) := 
        ⟨Sx.w32 rfl (by omega), Sx.w32 (by omega) (by omega), Sx.w32 (by omega) (by omega), Sx.w32 (by rw [hGQ]; rfl) (by omega), Sx.w32 rfl (by omega), Sx.w32 (by omega) (by omega), Sx.w32 (by rw [hCQ]; rfl) (by omega), decide_eq_true (by omega)⟩
      have HB : Hid (A7 ≤ AC ∧ AC ≤ FB.size ∧ A9 ≤ FB.size) := ⟨by omega, by omega, by omega⟩
      have HX : Hid (FB.extract A7 AC = C ∧ FB.extract A9 FB.size = D) := by
        obtain ⟨u1, u2⟩ := HCUT.out hf
        have hx : ∀ (T Y : ByteArray) f k, (T.toList.drop f).take (k - f) = Y.toList → T.extract f k = Y := fun T Y f k h => by
          rw [E.ext_list, List.drop_take, h, ByteArray.toList_eq]
        refine ⟨hx _ _ _ _ (by rw [show AC - A7 = C.size by omega]; exact u1), hx _ _ _ _ (by rw [List.take_of_length_le (by rw [List.length_drop, bt_len]; omega)]; exact u2)⟩
      have K8' : Hid (∀ w', Calls Tryz.prog 8 #[] w' fun e w'' => e = .returned (.bool true) ∧ Below w'.heap.size w' w'') := K8
      clear q1 q2 q3 q4 q5 q6 q7 q8 q9 q10 q11 q12 q13 hA94 hAC hDD hCC hGQ hCQ HHE HCUT HNUM hfit hf K7 K10 K13 K11 K15 HLV HP
      go_upto_region 6 with fail
      try rw [hW8]
      clear hW8
      refine wp_region_list ?_
      refine Sx.take (v := .int .i64 0) (by kernel_rfl) ?_ ?_
      · exact Sx.mv rfl rfl
      simp only [Act.put, List.getElem_toArray, List.getElem_cons_zero, List.getElem_cons_succ, List.setIfInBounds_toArray, List.set_cons_zero, List.set_cons_succ]
      refine Sx.take (v := .bool false) (by kernel_rfl) ?_ ?_
      · exact Sx.neI rfl rfl rfl rfl
      simp only [Act.put, List.getElem_toArray, List.getElem_cons_zero, List.getElem_cons_succ, List.setIfInBounds_toArray, List.set_cons_zero, List.set_cons_succ]
      refine Sx.take (v := .bool false) (by kernel_rfl) ?_ ?_
      · exact Sx.mv rfl rfl
      simp only [Act.put, List.getElem_toArray, List.getElem_cons_zero, List.getElem_cons_succ, List.setIfInBounds_toArray, List.set_cons_zero, List.set_cons_succ]
      refine Sx.take (v := .pointer (some ⟨w7.heap.size, 0, none⟩)) (by kernel_rfl) ?_ ?_
      · go_simp
      simp only [Act.put, List.getElem_toArray, List.getElem_cons_zero, List.getElem_cons_succ, List.setIfInBounds_toArray, List.set_cons_zero, List.set_cons_succ]
      refine Sx.take (v := .bool SH) (by kernel_rfl) ?_ ?_
      · have p_ := s0; go_simp
      simp only [Act.put, List.getElem_toArray, List.getElem_cons_zero, List.getElem_cons_succ, List.setIfInBounds_toArray, List.set_cons_zero, List.set_cons_succ]
      refine Sx.take (v := .pointer (some ⟨w.heap.size, 0, none⟩)) (by kernel_rfl) ?_ ?_
      · go_simp
      simp only [Act.put, List.getElem_toArray, List.getElem_cons_zero, List.getElem_cons_succ, List.setIfInBounds_toArray, List.set_cons_zero, List.set_cons_succ]
      refine Sx.take (v := .bool SH) (by kernel_rfl) ?_ ?_
      · have p_ := c0; go_simp
      simp only [Act.put, List.getElem_toArray, List.getElem_cons_zero, List.getElem_cons_succ, List.setIfInBounds_toArray, List.set_cons_zero, List.set_cons_succ]
      refine Sx.take (v := .bool false) (by kernel_rfl) ?_ ?_
      · exact Sx.neB (by kernel_rfl) rfl rfl rfl (by simp)
      simp only [Act.put, List.getElem_toArray, List.getElem_cons_zero, List.getElem_cons_succ, List.setIfInBounds_toArray, List.set_cons_zero, List.set_cons_succ]
      refine Sx.take (v := .bool false) (by kernel_rfl) ?_ ?_
      · exact Sx.pickF rfl rfl rfl
      simp only [Act.put, List.getElem_toArray, List.getElem_cons_zero, List.getElem_cons_succ, List.setIfInBounds_toArray, List.set_cons_zero, List.set_cons_succ]
      refine Sx.take (v := .bool false) (by kernel_rfl) ?_ ?_
      · exact Sx.mv rfl rfl
      simp only [Act.put, List.getElem_toArray, List.getElem_cons_zero, List.getElem_cons_succ, List.setIfInBounds_toArray, List.set_cons_zero, List.set_cons_succ]
      refine Sx.take (v := .pointer (some ⟨w7.heap.size, 1, none⟩)) (by kernel_rfl) ?_ ?_
      · go_simp
      simp only [Act.put, List.getElem_toArray, List.getElem_cons_zero, List.getElem_cons_succ, List.setIfInBounds_toArray, List.set_cons_zero, List.set_cons_succ]
      refine Sx.take (v := .int .u32 (HE : Int)) (by kernel_rfl) ?_ ?_
      · have p_ := s1; go_simp
      simp only [Act.put, List.getElem_toArray, List.getElem_cons_zero, List.getElem_cons_succ, List.setIfInBounds_toArray, List.set_cons_zero, List.set_cons_succ]
      refine Sx.take (v := .pointer (some ⟨w5.heap.size, 0, none⟩)) (by kernel_rfl) ?_ ?_
      · go_simp
      simp only [Act.put, List.getElem_toArray, List.getElem_cons_zero, List.getElem_cons_succ, List.setIfInBounds_toArray, List.set_cons_zero, List.set_cons_succ]
      refine Sx.take (v := .int .u32 (CO : Int)) (by kernel_rfl) ?_ ?_
      · have p_ := p0; go_simp
      simp only [Act.put, List.getElem_toArray, List.getElem_cons_zero, List.getElem_cons_succ, List.setIfInBounds_toArray, List.set_cons_zero, List.set_cons_succ]
      refine Sx.take (v := .pointer (some ⟨w.heap.size, 2, none⟩)) (by kernel_rfl) ?_ ?_
      · go_simp
      simp only [Act.put, List.getElem_toArray, List.getElem_cons_zero, List.getElem_cons_succ, List.setIfInBounds_toArray, List.set_cons_zero, List.set_cons_succ]
      refine Sx.take (v := .int .u32 (EN : Int)) (by kernel_rfl) ?_ ?_
      · have p_ := c2; go_simp
      simp only [Act.put, List.getElem_toArray, List.getElem_cons_zero, List.getElem_cons_succ, List.setIfInBounds_toArray, List.set_cons_zero, List.set_cons_succ]
      refine Sx.take (v := .int .u32 (HE : Int)) (by kernel_rfl) ?_ ?_
      · exact Sx.add rfl rfl rfl HF.out.1
      simp only [Act.put, List.getElem_toArray, List.getElem_cons_zero, List.getElem_cons_succ, List.setIfInBounds_toArray, List.set_cons_zero, List.set_cons_succ]
      refine Sx.take (v := .bool false) (by kernel_rfl) ?_ ?_
      · exact Sx.neI rfl rfl rfl (by simp)
      simp only [Act.put, List.getElem_toArray, List.getElem_cons_zero, List.getElem_cons_succ, List.setIfInBounds_toArray, List.set_cons_zero, List.set_cons_succ]
      refine Sx.take (v := .bool false) (by kernel_rfl) ?_ ?_
      · exact Sx.pickF rfl rfl rfl
      simp only [Act.put, List.getElem_toArray, List.getElem_cons_zero, List.getElem_cons_succ, List.setIfInBounds_toArray, List.set_cons_zero, List.set_cons_succ]
      refine wpList_nil ?_
      go_upto_region 8 with fail
      refine wp_region_held_drew (S := fun w' => Below W8.heap.size W8 w') (by kernel_rfl) (Below.refl _ _).drew (fun hS => ?_)
      refine wpAnyH_take (i := 0) (v := .pointer (some ⟨w5.heap.size, 0, none⟩)) rfl (by kernel_rfl) (by kernel_rfl) (by kernel_rfl) (fun _ _ _ h => h) (Or.inl ⟨by kernel_rfl, fun wq hSw => ?_⟩) hS ?_
      · go_simp
      simp only [Act.put, List.getElem_toArray, List.getElem_cons_zero, List.getElem_cons_succ, List.setIfInBounds_toArray, List.set_cons_zero, List.set_cons_succ]
      refine wpAnyH_take (i := 1) (v := .int .u32 (CO : Int)) rfl (by kernel_rfl) (by kernel_rfl) (by kernel_rfl) (fun _ _ _ h => h) (Or.inl ⟨by kernel_rfl, fun wq hSw => ?_⟩) hS ?_
      · have p_ := keep_cell hSw p0; go_simp
      simp only [Act.put, List.getElem_toArray, List.getElem_cons_zero, List.getElem_cons_succ, List.setIfInBounds_toArray, List.set_cons_zero, List.set_cons_succ]
      refine wpAnyH_take (i := 2) (v := .pointer (some ⟨w.heap.size, 1, none⟩)) rfl (by kernel_rfl) (by kernel_rfl) (by kernel_rfl) (fun _ _ _ h => h) (Or.inl ⟨by kernel_rfl, fun wq hSw => ?_⟩) hS ?_
      · go_simp
      simp only [Act.put, List.getElem_toArray, List.getElem_cons_zero, List.getElem_cons_succ, List.setIfInBounds_toArray, List.set_cons_zero, List.set_cons_succ]
      refine wpAnyH_take (i := 3) (v := .int .u32 (BA : Int)) rfl (by kernel_rfl) (by kernel_rfl) (by kernel_rfl) (fun _ _ _ h => h) (Or.inl ⟨by kernel_rfl, fun wq hSw => ?_⟩) hS ?_
      · have p_ := keep_cell hSw c1; go_simp
      simp only [Act.put, List.getElem_toArray, List.getElem_cons_zero, List.getElem_cons_succ, List.setIfInBounds_toArray, List.set_cons_zero, List.set_cons_succ]
      refine wpAnyH_take (i := 4) (v := .int .u32 (A7 : Int)) rfl (by kernel_rfl) (by kernel_rfl) (by kernel_rfl) (fun _ _ _ h => h) (Or.inl ⟨by kernel_rfl, fun wq hSw => ?_⟩) hS ?_
      · exact Sx.sub rfl rfl rfl HF.out.2.1
      simp only [Act.put, List.getElem_toArray, List.getElem_cons_zero, List.getElem_cons_succ, List.setIfInBounds_toArray, List.set_cons_zero, List.set_cons_succ]
      refine wpAnyH_take (i := 5) (v := .int .i64 (A7 : Int)) rfl (by kernel_rfl) (by kernel_rfl) (by kernel_rfl) (fun _ _ _ h => h) (Or.inl ⟨by kernel_rfl, fun wq hSw => ?_⟩) hS ?_
      · exact Sx.convI rfl (by kernel_rfl) (by kernel_rfl) rfl HF.out.2.2.1
      simp only [Act.put, List.getElem_toArray, List.getElem_cons_zero, List.getElem_cons_succ, List.setIfInBounds_toArray, List.set_cons_zero, List.set_cons_succ]
      refine wpAnyH_take (i := 6) (v := .pointer (some ⟨w5.heap.size, 2, none⟩)) rfl (by kernel_rfl) (by kernel_rfl) (by kernel_rfl) (fun _ _ _ h => h) (Or.inl ⟨by kernel_rfl, fun wq hSw => ?_⟩) hS ?_
      · go_simp
      simp only [Act.put, List.getElem_toArray, List.getElem_cons_zero, List.getElem_cons_succ, List.setIfInBounds_toArray, List.set_cons_zero, List.set_cons_succ]
      refine wpAnyH_take (i := 7) (v := .int .u32 (DA : Int)) rfl (by kernel_rfl) (by kernel_rfl) (by kernel_rfl) (fun _ _ _ h => h) (Or.inl ⟨by kernel_rfl, fun wq hSw => ?_⟩) hS ?_
      · have p_ := keep_cell hSw p2; go_simp
      simp only [Act.put, List.getElem_toArray, List.getElem_cons_zero, List.getElem_cons_succ, List.setIfInBounds_toArray, List.set_cons_zero, List.set_cons_succ]
      refine wpAnyH_take (i := 8) (v := .pointer (some ⟨w.heap.size, 1, none⟩)) rfl (by kernel_rfl) (by kernel_rfl) (by kernel_rfl) (fun _ _ _ h => h) (Or.inl ⟨by kernel_rfl, fun wq hSw => ?_⟩) hS ?_
      · go_simp
      simp only [Act.put, List.getElem_toArray, List.getElem_cons_zero, List.getElem_cons_succ, List.setIfInBounds_toArray, List.set_cons_zero, List.set_cons_succ]
      refine wpAnyH_take (i := 9) (v := .int .u32 (BA : Int)) rfl (by kernel_rfl) (by kernel_rfl) (by kernel_rfl) (fun _ _ _ h => h) (Or.inl ⟨by kernel_rfl, fun wq hSw => ?_⟩) hS ?_
      · have p_ := keep_cell hSw c1; go_simp
      simp only [Act.put, List.getElem_toArray, List.getElem_cons_zero, List.getElem_cons_succ, List.setIfInBounds_toArray, List.set_cons_zero, List.set_cons_succ]
      refine wpAnyH_take (i := 10) (v := .int .u32 (A94 : Int)) rfl (by kernel_rfl) (by kernel_rfl) (by kernel_rfl) (fun _ _ _ h => h) (Or.inl ⟨by kernel_rfl, fun wq hSw => ?_⟩) hS ?_
      · exact Sx.sub rfl rfl rfl HF.out.2.2.2.1
      simp only [Act.put, List.getElem_toArray, List.getElem_cons_zero, List.getElem_cons_succ, List.setIfInBounds_toArray, List.set_cons_zero, List.set_cons_succ]
      refine wpAnyH_take (i := 11) (v := .int .i64 (A94 : Int)) rfl (by kernel_rfl) (by kernel_rfl) (by kernel_rfl) (fun _ _ _ h => h) (Or.inl ⟨by kernel_rfl, fun wq hSw => ?_⟩) hS ?_
      · exact Sx.convI rfl (by kernel_rfl) (by kernel_rfl) rfl HF.out.2.2.2.2.1
      simp only [Act.put, List.getElem_toArray, List.getElem_cons_zero, List.getElem_cons_succ, List.setIfInBounds_toArray, List.set_cons_zero, List.set_cons_succ]
      refine wpAnyH_take (i := 12) (v := .int .i64 (A9 : Int)) rfl (by kernel_rfl) (by kernel_rfl) (by kernel_rfl) (fun _ _ _ h => h) (Or.inl ⟨by kernel_rfl, fun wq hSw => ?_⟩) hS ?_
      · exact Sx.sub rfl rfl rfl HF.out.2.2.2.2.2
      simp only [Act.put, List.getElem_toArray, List.getElem_cons_zero, List.getElem_cons_succ, List.setIfInBounds_toArray, List.set_cons_zero, List.set_cons_succ]
      refine wpAnyH_take (i := 13) (v := .int .i64 (A7 : Int)) rfl (by kernel_rfl) (by kernel_rfl) (by kernel_rfl) (fun _ _ _ h => h) (Or.inl ⟨by kernel_rfl, fun wq hSw => ?_⟩) hS ?_
      · go_simp
      simp only [Act.put, List.getElem_toArray, List.getElem_cons_zero, List.getElem_cons_succ, List.setIfInBounds_toArray, List.set_cons_zero, List.set_cons_succ]
      refine wpAnyH_take (i := 14) (v := .int .i64 (A9 : Int)) rfl (by kernel_rfl) (by kernel_rfl) (by kernel_rfl) (fun _ _ _ h => h) (Or.inl ⟨by kernel_rfl, fun wq hSw => ?_⟩) hS ?_
      · go_simp
      simp only [Act.put, List.getElem_toArray, List.getElem_cons_zero, List.getElem_cons_succ, List.setIfInBounds_toArray, List.set_cons_zero, List.set_cons_succ]
      refine wpAnyH_done (by kernel_rfl) ?_ _
      clear hS
      go_upto_region 9 with fail
      refine wp_region_list ?_
      refine Sx.take (v := .int .i64 (A7 : Int)) (by kernel_rfl) ?_ ?_
      · exact Sx.mv rfl rfl
      simp only [Act.put, List.getElem_toArray, List.getElem_cons_zero, List.getElem_cons_succ, List.setIfInBounds_toArray, List.set_cons_zero, List.set_cons_succ]
      refine Sx.take (v := .bool false) (by kernel_rfl) ?_ ?_
      · exact Sx.ltI rfl rfl rfl HG.out.1
      simp only [Act.put, List.getElem_toArray, List.getElem_cons_zero, List.getElem_cons_succ, List.setIfInBounds_toArray, List.set_cons_zero, List.set_cons_succ]
      refine Sx.take (v := .bool false) (by kernel_rfl) ?_ ?_
      · exact Sx.mv rfl rfl
      simp only [Act.put, List.getElem_toArray, List.getElem_cons_zero, List.getElem_cons_succ, List.setIfInBounds_toArray, List.set_cons_zero, List.set_cons_succ]
      refine Sx.take (v := .int .i64 (A9 : Int)) (by kernel_rfl) ?_ ?_
      · exact Sx.mv rfl rfl
      simp only [Act.put, List.getElem_toArray, List.getElem_cons_zero, List.getElem_cons_succ, List.setIfInBounds_toArray, List.set_cons_zero, List.set_cons_succ]
      refine Sx.take (v := .bool false) (by kernel_rfl) ?_ ?_
      · exact Sx.ltI rfl rfl rfl HG.out.2.1
      simp only [Act.put, List.getElem_toArray, List.getElem_cons_zero, List.getElem_cons_succ, List.setIfInBounds_toArray, List.set_cons_zero, List.set_cons_succ]
      refine Sx.take (v := .bool false) (by kernel_rfl) ?_ ?_
      · exact Sx.pickF rfl rfl rfl
      simp only [Act.put, List.getElem_toArray, List.getElem_cons_zero, List.getElem_cons_succ, List.setIfInBounds_toArray, List.set_cons_zero, List.set_cons_succ]
      refine Sx.take (v := .bool false) (by kernel_rfl) ?_ ?_
      · exact Sx.mv rfl rfl
      simp only [Act.put, List.getElem_toArray, List.getElem_cons_zero, List.getElem_cons_succ, List.setIfInBounds_toArray, List.set_cons_zero, List.set_cons_succ]
      refine Sx.take (v := .int .i64 (A7 : Int)) (by kernel_rfl) ?_ ?_
      · exact Sx.mv rfl rfl
      simp only [Act.put, List.getElem_toArray, List.getElem_cons_zero, List.getElem_cons_succ, List.setIfInBounds_toArray, List.set_cons_zero, List.set_cons_succ]
      refine Sx.take (v := .pointer (some ⟨w.heap.size, 3, none⟩)) (by kernel_rfl) ?_ ?_
      · go_simp
      simp only [Act.put, List.getElem_toArray, List.getElem_cons_zero, List.getElem_cons_succ, List.setIfInBounds_toArray, List.set_cons_zero, List.set_cons_succ]
      refine Sx.take (v := .string C) (by kernel_rfl) ?_ ?_
      · have p_ := c3; go_simp
      simp only [Act.put, List.getElem_toArray, List.getElem_cons_zero, List.getElem_cons_succ, List.setIfInBounds_toArray, List.set_cons_zero, List.set_cons_succ]
      refine Sx.take (v := .int .i64 (C.size : Int)) (by kernel_rfl) ?_ ?_
      · exact Sx.lenS (by kernel_rfl) rfl rfl rfl
      simp only [Act.put, List.getElem_toArray, List.getElem_cons_zero, List.getElem_cons_succ, List.setIfInBounds_toArray, List.set_cons_zero, List.set_cons_succ]
      refine Sx.take (v := .int .i64 (AC : Int)) (by kernel_rfl) ?_ ?_
      · exact Sx.add rfl rfl rfl HG.out.2.2.1
      simp only [Act.put, List.getElem_toArray, List.getElem_cons_zero, List.getElem_cons_succ, List.setIfInBounds_toArray, List.set_cons_zero, List.set_cons_succ]
      refine Sx.take (v := .string FB) (by kernel_rfl) ?_ ?_
      · exact Sx.mv rfl rfl
      simp only [Act.put, List.getElem_toArray, List.getElem_cons_zero, List.getElem_cons_succ, List.setIfInBounds_toArray, List.set_cons_zero, List.set_cons_succ]
      refine Sx.take (v := .int .i64 (FB.size : Int)) (by kernel_rfl) ?_ ?_
      · exact Sx.lenS (by kernel_rfl) rfl rfl rfl
      simp only [Act.put, List.getElem_toArray, List.getElem_cons_zero, List.getElem_cons_succ, List.setIfInBounds_toArray, List.set_cons_zero, List.set_cons_succ]
      refine Sx.take (v := .bool false) (by kernel_rfl) ?_ ?_
      · exact Sx.gtI rfl rfl rfl HG.out.2.2.2.1
      simp only [Act.put, List.getElem_toArray, List.getElem_cons_zero, List.getElem_cons_succ, List.setIfInBounds_toArray, List.set_cons_zero, List.set_cons_succ]
      refine Sx.take (v := .bool false) (by kernel_rfl) ?_ ?_
      · exact Sx.pickF rfl rfl rfl
      simp only [Act.put, List.getElem_toArray, List.getElem_cons_zero, List.getElem_cons_succ, List.setIfInBounds_toArray, List.set_cons_zero, List.set_cons_succ]
      refine Sx.take (v := .bool false) (by kernel_rfl) ?_ ?_
      · exact Sx.mv rfl rfl
      simp only [Act.put, List.getElem_toArray, List.getElem_cons_zero, List.getElem_cons_succ, List.setIfInBounds_toArray, List.set_cons_zero, List.set_cons_succ]
      refine Sx.take (v := .int .i64 (A9 : Int)) (by kernel_rfl) ?_ ?_
      · exact Sx.mv rfl rfl
      simp only [Act.put, List.getElem_toArray, List.getElem_cons_zero, List.getElem_cons_succ, List.setIfInBounds_toArray, List.set_cons_zero, List.set_cons_succ]
      refine Sx.take (v := .pointer (some ⟨w.heap.size, 4, none⟩)) (by kernel_rfl) ?_ ?_
      · go_simp
      simp only [Act.put, List.getElem_toArray, List.getElem_cons_zero, List.getElem_cons_succ, List.setIfInBounds_toArray, List.set_cons_zero, List.set_cons_succ]
      refine Sx.take (v := .string D) (by kernel_rfl) ?_ ?_
      · have p_ := c4; go_simp
      simp only [Act.put, List.getElem_toArray, List.getElem_cons_zero, List.getElem_cons_succ, List.setIfInBounds_toArray, List.set_cons_zero, List.set_cons_succ]
      refine Sx.take (v := .int .i64 (D.size : Int)) (by kernel_rfl) ?_ ?_
      · exact Sx.lenS (by kernel_rfl) rfl rfl rfl
      simp only [Act.put, List.getElem_toArray, List.getElem_cons_zero, List.getElem_cons_succ, List.setIfInBounds_toArray, List.set_cons_zero, List.set_cons_succ]
      refine Sx.take (v := .int .i64 (FB.size : Int)) (by kernel_rfl) ?_ ?_
      · exact Sx.add rfl rfl rfl HG.out.2.2.2.2
      simp only [Act.put, List.getElem_toArray, List.getElem_cons_zero, List.getElem_cons_succ, List.setIfInBounds_toArray, List.set_cons_zero, List.set_cons_succ]
      refine Sx.take (v := .string FB) (by kernel_rfl) ?_ ?_
      · exact Sx.mv rfl rfl
      simp only [Act.put, List.getElem_toArray, List.getElem_cons_zero, List.getElem_cons_succ, List.setIfInBounds_toArray, List.set_cons_zero, List.set_cons_succ]
      refine Sx.take (v := .int .i64 (FB.size : Int)) (by kernel_rfl) ?_ ?_
      · exact Sx.lenS (by kernel_rfl) rfl rfl rfl
      simp only [Act.put, List.getElem_toArray, List.getElem_cons_zero, List.getElem_cons_succ, List.setIfInBounds_toArray, List.set_cons_zero, List.set_cons_succ]
      refine Sx.take (v := .bool false) (by kernel_rfl) ?_ ?_
      · exact Sx.neI rfl rfl rfl (by simp)
      simp only [Act.put, List.getElem_toArray, List.getElem_cons_zero, List.getElem_cons_succ, List.setIfInBounds_toArray, List.set_cons_zero, List.set_cons_succ]
      refine Sx.take (v := .bool false) (by kernel_rfl) ?_ ?_
      · exact Sx.pickF rfl rfl rfl
      simp only [Act.put, List.getElem_toArray, List.getElem_cons_zero, List.getElem_cons_succ, List.setIfInBounds_toArray, List.set_cons_zero, List.set_cons_succ]
      refine wpList_nil ?_
      go_upto_region 11 with fail
      refine wp_region_held_drew (S := fun w' => Below W8.heap.size W8 w') (by kernel_rfl) (Below.refl _ _).drew.drew (fun hS => ?_)
      refine wpAnyH_take (i := 0) (v := .string FB) rfl (by kernel_rfl) (by kernel_rfl) (by kernel_rfl) (fun _ _ _ h => h) (Or.inl ⟨by kernel_rfl, fun wq hSw => ?_⟩) hS ?_
      · go_simp
      simp only [Act.put, List.getElem_toArray, List.getElem_cons_zero, List.getElem_cons_succ, List.setIfInBounds_toArray, List.set_cons_zero, List.set_cons_succ]
      refine wpAnyH_take (i := 1) (v := .int .i64 (A7 : Int)) rfl (by kernel_rfl) (by kernel_rfl) (by kernel_rfl) (fun _ _ _ h => h) (Or.inl ⟨by kernel_rfl, fun wq hSw => ?_⟩) hS ?_
      · go_simp
      simp only [Act.put, List.getElem_toArray, List.getElem_cons_zero, List.getElem_cons_succ, List.setIfInBounds_toArray, List.set_cons_zero, List.set_cons_succ]
      refine wpAnyH_take (i := 2) (v := .int .i64 (A7 : Int)) rfl (by kernel_rfl) (by kernel_rfl) (by kernel_rfl) (fun _ _ _ h => h) (Or.inl ⟨by kernel_rfl, fun wq hSw => ?_⟩) hS ?_
      · go_simp
      simp only [Act.put, List.getElem_toArray, List.getElem_cons_zero, List.getElem_cons_succ, List.setIfInBounds_toArray, List.set_cons_zero, List.set_cons_succ]
      refine wpAnyH_take (i := 3) (v := .pointer (some ⟨w.heap.size, 3, none⟩)) rfl (by kernel_rfl) (by kernel_rfl) (by kernel_rfl) (fun _ _ _ h => h) (Or.inl ⟨by kernel_rfl, fun wq hSw => ?_⟩) hS ?_
      · go_simp
      simp only [Act.put, List.getElem_toArray, List.getElem_cons_zero, List.getElem_cons_succ, List.setIfInBounds_toArray, List.set_cons_zero, List.set_cons_succ]
      refine wpAnyH_take (i := 4) (v := .string C) rfl (by kernel_rfl) (by kernel_rfl) (by kernel_rfl) (fun _ _ _ h => h) (Or.inl ⟨by kernel_rfl, fun wq hSw => ?_⟩) hS ?_
      · have p_ := keep_cell hSw c3; go_simp
      simp only [Act.put, List.getElem_toArray, List.getElem_cons_zero, List.getElem_cons_succ, List.setIfInBounds_toArray, List.set_cons_zero, List.set_cons_succ]
      refine wpAnyH_take (i := 5) (v := .int .i64 (C.size : Int)) rfl (by kernel_rfl) (by kernel_rfl) (by kernel_rfl) (fun _ _ _ h => h) (Or.inl ⟨by kernel_rfl, fun wq hSw => ?_⟩) hS ?_
      · exact Sx.lenS (by kernel_rfl) rfl rfl rfl
      simp only [Act.put, List.getElem_toArray, List.getElem_cons_zero, List.getElem_cons_succ, List.setIfInBounds_toArray, List.set_cons_zero, List.set_cons_succ]
      refine wpAnyH_take (i := 6) (v := .int .i64 (AC : Int)) rfl (by kernel_rfl) (by kernel_rfl) (by kernel_rfl) (fun _ _ _ h => h) (Or.inl ⟨by kernel_rfl, fun wq hSw => ?_⟩) hS ?_
      · exact Sx.add rfl rfl rfl HG.out.2.2.1
      simp only [Act.put, List.getElem_toArray, List.getElem_cons_zero, List.getElem_cons_succ, List.setIfInBounds_toArray, List.set_cons_zero, List.set_cons_succ]
      refine wpAnyH_take (i := 7) (v := .string C) rfl (by kernel_rfl) (by kernel_rfl) (by kernel_rfl) (fun _ _ _ h => h) (Or.inl ⟨by kernel_rfl, fun wq hSw => ?_⟩) hS ?_
      · exact Sx.sliceS (by kernel_rfl) rfl rfl rfl rfl HB.out.1 HB.out.2.1 HX.out.1
      simp only [Act.put, List.getElem_toArray, List.getElem_cons_zero, List.getElem_cons_succ, List.setIfInBounds_toArray, List.set_cons_zero, List.set_cons_succ]
      refine wpAnyH_take (i := 8) (v := .pointer (some ⟨w.heap.size, 3, none⟩)) rfl (by kernel_rfl) (by kernel_rfl) (by kernel_rfl) (fun _ _ _ h => h) (Or.inl ⟨by kernel_rfl, fun wq hSw => ?_⟩) hS ?_
      · go_simp
      simp only [Act.put, List.getElem_toArray, List.getElem_cons_zero, List.getElem_cons_succ, List.setIfInBounds_toArray, List.set_cons_zero, List.set_cons_succ]
      refine wpAnyH_take (i := 9) (v := .string C) rfl (by kernel_rfl) (by kernel_rfl) (by kernel_rfl) (fun _ _ _ h => h) (Or.inl ⟨by kernel_rfl, fun wq hSw => ?_⟩) hS ?_
      · have p_ := keep_cell hSw c3; go_simp
      simp only [Act.put, List.getElem_toArray, List.getElem_cons_zero, List.getElem_cons_succ, List.setIfInBounds_toArray, List.set_cons_zero, List.set_cons_succ]
      refine wpAnyH_take (i := 10) (v := .bool true) rfl (by kernel_rfl) (by kernel_rfl) (by kernel_rfl) (fun _ _ _ h => h) (Or.inl ⟨by kernel_rfl, fun wq hSw => ?_⟩) hS ?_
      · exact Sx.eqS rfl rfl rfl (by simp)
      simp only [Act.put, List.getElem_toArray, List.getElem_cons_zero, List.getElem_cons_succ, List.setIfInBounds_toArray, List.set_cons_zero, List.set_cons_succ]
      refine wpAnyH_take (i := 11) (v := .bool true) rfl (by kernel_rfl) (by kernel_rfl) (by kernel_rfl) (fun _ _ _ h => h) (Or.inl ⟨by kernel_rfl, fun wq hSw => ?_⟩) hS ?_
      · go_simp
      simp only [Act.put, List.getElem_toArray, List.getElem_cons_zero, List.getElem_cons_succ, List.setIfInBounds_toArray, List.set_cons_zero, List.set_cons_succ]
      refine wpAnyH_take (i := 12) (v := .string FB) rfl (by kernel_rfl) (by kernel_rfl) (by kernel_rfl) (fun _ _ _ h => h) (Or.inl ⟨by kernel_rfl, fun wq hSw => ?_⟩) hS ?_
      · go_simp
      simp only [Act.put, List.getElem_toArray, List.getElem_cons_zero, List.getElem_cons_succ, List.setIfInBounds_toArray, List.set_cons_zero, List.set_cons_succ]
      refine wpAnyH_take (i := 13) (v := .int .i64 (A9 : Int)) rfl (by kernel_rfl) (by kernel_rfl) (by kernel_rfl) (fun _ _ _ h => h) (Or.inl ⟨by kernel_rfl, fun wq hSw => ?_⟩) hS ?_
      · go_simp
      simp only [Act.put, List.getElem_toArray, List.getElem_cons_zero, List.getElem_cons_succ, List.setIfInBounds_toArray, List.set_cons_zero, List.set_cons_succ]
      refine wpAnyH_take (i := 14) (v := .string D) rfl (by kernel_rfl) (by kernel_rfl) (by kernel_rfl) (fun _ _ _ h => h) (Or.inl ⟨by kernel_rfl, fun wq hSw => ?_⟩) hS ?_
      · exact Sx.sliceS0 (by kernel_rfl) rfl rfl rfl HB.out.2.2 HX.out.2
      simp only [Act.put, List.getElem_toArray, List.getElem_cons_zero, List.getElem_cons_succ, List.setIfInBounds_toArray, List.set_cons_zero, List.set_cons_succ]
      refine wpAnyH_take (i := 15) (v := .pointer (some ⟨w.heap.size, 4, none⟩)) rfl (by kernel_rfl) (by kernel_rfl) (by kernel_rfl) (fun _ _ _ h => h) (Or.inl ⟨by kernel_rfl, fun wq hSw => ?_⟩) hS ?_
      · go_simp
      simp only [Act.put, List.getElem_toArray, List.getElem_cons_zero, List.getElem_cons_succ, List.setIfInBounds_toArray, List.set_cons_zero, List.set_cons_succ]
      refine wpAnyH_take (i := 16) (v := .string D) rfl (by kernel_rfl) (by kernel_rfl) (by kernel_rfl) (fun _ _ _ h => h) (Or.inl ⟨by kernel_rfl, fun wq hSw => ?_⟩) hS ?_
      · have p_ := keep_cell hSw c4; go_simp
      simp only [Act.put, List.getElem_toArray, List.getElem_cons_zero, List.getElem_cons_succ, List.setIfInBounds_toArray, List.set_cons_zero, List.set_cons_succ]
      refine wpAnyH_take (i := 17) (v := .bool true) rfl (by kernel_rfl) (by kernel_rfl) (by kernel_rfl) (fun _ _ _ h => h) (Or.inl ⟨by kernel_rfl, fun wq hSw => ?_⟩) hS ?_
      · exact Sx.eqS rfl rfl rfl (by simp)
      simp only [Act.put, List.getElem_toArray, List.getElem_cons_zero, List.getElem_cons_succ, List.setIfInBounds_toArray, List.set_cons_zero, List.set_cons_succ]
      refine wpAnyH_take (i := 18) (v := .bool true) rfl (by kernel_rfl) (by kernel_rfl) (by kernel_rfl) (fun _ _ _ h => h) (Or.inl ⟨by kernel_rfl, fun wq hSw => ?_⟩) hS ?_
      · exact Sx.pickT rfl rfl rfl
      simp only [Act.put, List.getElem_toArray, List.getElem_cons_zero, List.getElem_cons_succ, List.setIfInBounds_toArray, List.set_cons_zero, List.set_cons_succ]
      refine wpAnyH_take (i := 19) (v := .bool true) rfl (by kernel_rfl) (by kernel_rfl) (by kernel_rfl) (fun _ _ _ h => h) (Or.inl ⟨by kernel_rfl, fun wq hSw => ?_⟩) hS ?_
      · go_simp
      simp only [Act.put, List.getElem_toArray, List.getElem_cons_zero, List.getElem_cons_succ, List.setIfInBounds_toArray, List.set_cons_zero, List.set_cons_succ]
      refine wpAnyH_take (i := 20) (v := .pointer (some ⟨w5.heap.size, 3, none⟩)) rfl (by kernel_rfl) (by kernel_rfl) (by kernel_rfl) (fun _ _ _ h => h) (Or.inl ⟨by kernel_rfl, fun wq hSw => ?_⟩) hS ?_
      · go_simp
      simp only [Act.put, List.getElem_toArray, List.getElem_cons_zero, List.getElem_cons_succ, List.setIfInBounds_toArray, List.set_cons_zero, List.set_cons_succ]
      refine wpAnyH_take (i := 21) (v := .int .u32 (FI : Int)) rfl (by kernel_rfl) (by kernel_rfl) (by kernel_rfl) (fun _ _ _ h => h) (Or.inl ⟨by kernel_rfl, fun wq hSw => ?_⟩) hS ?_
      · have p_ := keep_cell hSw p3; go_simp
      simp only [Act.put, List.getElem_toArray, List.getElem_cons_zero, List.getElem_cons_succ, List.setIfInBounds_toArray, List.set_cons_zero, List.set_cons_succ]
      refine wpAnyH_take (i := 22) (v := .pointer (some ⟨w5.heap.size, 2, none⟩)) rfl (by kernel_rfl) (by kernel_rfl) (by kernel_rfl) (fun _ _ _ h => h) (Or.inl ⟨by kernel_rfl, fun wq hSw => ?_⟩) hS ?_
      · go_simp
      simp only [Act.put, List.getElem_toArray, List.getElem_cons_zero, List.getElem_cons_succ, List.setIfInBounds_toArray, List.set_cons_zero, List.set_cons_succ]
      refine wpAnyH_take (i := 23) (v := .int .u32 (DA : Int)) rfl (by kernel_rfl) (by kernel_rfl) (by kernel_rfl) (fun _ _ _ h => h) (Or.inl ⟨by kernel_rfl, fun wq hSw => ?_⟩) hS ?_
      · have p_ := keep_cell hSw p2; go_simp
      simp only [Act.put, List.getElem_toArray, List.getElem_cons_zero, List.getElem_cons_succ, List.setIfInBounds_toArray, List.set_cons_zero, List.set_cons_succ]
      refine wpAnyH_take (i := 24) (v := .pointer (some ⟨w.heap.size, 4, none⟩)) rfl (by kernel_rfl) (by kernel_rfl) (by kernel_rfl) (fun _ _ _ h => h) (Or.inl ⟨by kernel_rfl, fun wq hSw => ?_⟩) hS ?_
      · go_simp
      simp only [Act.put, List.getElem_toArray, List.getElem_cons_zero, List.getElem_cons_succ, List.setIfInBounds_toArray, List.set_cons_zero, List.set_cons_succ]
      refine wpAnyH_take (i := 25) (v := .string D) rfl (by kernel_rfl) (by kernel_rfl) (by kernel_rfl) (fun _ _ _ h => h) (Or.inl ⟨by kernel_rfl, fun wq hSw => ?_⟩) hS ?_
      · have p_ := keep_cell hSw c4; go_simp
      simp only [Act.put, List.getElem_toArray, List.getElem_cons_zero, List.getElem_cons_succ, List.setIfInBounds_toArray, List.set_cons_zero, List.set_cons_succ]
      refine wpAnyH_take (i := 26) (v := .int .i64 (D.size : Int)) rfl (by kernel_rfl) (by kernel_rfl) (by kernel_rfl) (fun _ _ _ h => h) (Or.inl ⟨by kernel_rfl, fun wq hSw => ?_⟩) hS ?_
      · exact Sx.lenS (by kernel_rfl) rfl rfl rfl
      simp only [Act.put, List.getElem_toArray, List.getElem_cons_zero, List.getElem_cons_succ, List.setIfInBounds_toArray, List.set_cons_zero, List.set_cons_succ]
      refine wpAnyH_take (i := 27) (v := .int .u32 (D.size : Int)) rfl (by kernel_rfl) (by kernel_rfl) (by kernel_rfl) (fun _ _ _ h => h) (Or.inl ⟨by kernel_rfl, fun wq hSw => ?_⟩) hS ?_
      · exact Sx.convI rfl (by kernel_rfl) (by kernel_rfl) rfl HJ.out.1
      simp only [Act.put, List.getElem_toArray, List.getElem_cons_zero, List.getElem_cons_succ, List.setIfInBounds_toArray, List.set_cons_zero, List.set_cons_succ]
      refine wpAnyH_take (i := 28) (v := .int .u32 (DD : Int)) rfl (by kernel_rfl) (by kernel_rfl) (by kernel_rfl) (fun _ _ _ h => h) (Or.inl ⟨by kernel_rfl, fun wq hSw => ?_⟩) hS ?_
      · exact Sx.add rfl rfl rfl HJ.out.2.1
      simp only [Act.put, List.getElem_toArray, List.getElem_cons_zero, List.getElem_cons_succ, List.setIfInBounds_toArray, List.set_cons_zero, List.set_cons_succ]
      refine wpAnyH_take (i := 29) (v := .pointer (some ⟨w.heap.size, 5, none⟩)) rfl (by kernel_rfl) (by kernel_rfl) (by kernel_rfl) (fun _ _ _ h => h) (Or.inl ⟨by kernel_rfl, fun wq hSw => ?_⟩) hS ?_
      · go_simp
      simp only [Act.put, List.getElem_toArray, List.getElem_cons_zero, List.getElem_cons_succ, List.setIfInBounds_toArray, List.set_cons_zero, List.set_cons_succ]
      refine wpAnyH_take (i := 30) (v := .int .u32 (BS : Int)) rfl (by kernel_rfl) (by kernel_rfl) (by kernel_rfl) (fun _ _ _ h => h) (Or.inl ⟨by kernel_rfl, fun wq hSw => ?_⟩) hS ?_
      · have p_ := keep_cell hSw c5; go_simp
      simp only [Act.put, List.getElem_toArray, List.getElem_cons_zero, List.getElem_cons_succ, List.setIfInBounds_toArray, List.set_cons_zero, List.set_cons_succ]
      refine wpAnyH_take (i := 31) (v := .int .u32 (FI : Int)) rfl (by kernel_rfl) (by kernel_rfl) (by kernel_rfl) (fun _ _ _ h => h) (Or.inl ⟨by kernel_rfl, fun wq hSw => ?_⟩) hS ?_
      · exact Sx.add rfl rfl rfl HJ.out.2.2.1
      simp only [Act.put, List.getElem_toArray, List.getElem_cons_zero, List.getElem_cons_succ, List.setIfInBounds_toArray, List.set_cons_zero, List.set_cons_succ]
      refine wpAnyH_take (i := 32) (v := .bool true) rfl (by kernel_rfl) (by kernel_rfl) (by kernel_rfl) (fun _ _ _ h => h) (Or.inl ⟨by kernel_rfl, fun wq hSw => ?_⟩) hS ?_
      · exact Sx.eqI rfl rfl rfl (by simp)
      simp only [Act.put, List.getElem_toArray, List.getElem_cons_zero, List.getElem_cons_succ, List.setIfInBounds_toArray, List.set_cons_zero, List.set_cons_succ]
      refine wpAnyH_take (i := 33) (v := .bool true) rfl (by kernel_rfl) (by kernel_rfl) (by kernel_rfl) (fun _ _ _ h => h) (Or.inl ⟨by kernel_rfl, fun wq hSw => ?_⟩) hS ?_
      · exact Sx.pickT rfl rfl rfl
      simp only [Act.put, List.getElem_toArray, List.getElem_cons_zero, List.getElem_cons_succ, List.setIfInBounds_toArray, List.set_cons_zero, List.set_cons_succ]
      refine wpAnyH_take (i := 34) (v := .bool true) rfl (by kernel_rfl) (by kernel_rfl) (by kernel_rfl) (fun _ _ _ h => h) (Or.inl ⟨by kernel_rfl, fun wq hSw => ?_⟩) hS ?_
      · go_simp
      simp only [Act.put, List.getElem_toArray, List.getElem_cons_zero, List.getElem_cons_succ, List.setIfInBounds_toArray, List.set_cons_zero, List.set_cons_succ]
      refine wpAnyH_take (i := 35) (v := .pointer (some ⟨w5.heap.size, 1, none⟩)) rfl (by kernel_rfl) (by kernel_rfl) (by kernel_rfl) (fun _ _ _ h => h) (Or.inl ⟨by kernel_rfl, fun wq hSw => ?_⟩) hS ?_
      · go_simp
      simp only [Act.put, List.getElem_toArray, List.getElem_cons_zero, List.getElem_cons_succ, List.setIfInBounds_toArray, List.set_cons_zero, List.set_cons_succ]
      refine wpAnyH_take (i := 36) (v := .int .u32 (GT : Int)) rfl (by kernel_rfl) (by kernel_rfl) (by kernel_rfl) (fun _ _ _ h => h) (Or.inl ⟨by kernel_rfl, fun wq hSw => ?_⟩) hS ?_
      · have p_ := keep_cell hSw p1; go_simp
      simp only [Act.put, List.getElem_toArray, List.getElem_cons_zero, List.getElem_cons_succ, List.setIfInBounds_toArray, List.set_cons_zero, List.set_cons_succ]
      refine wpAnyH_take (i := 37) (v := .int .u32 (GQ : Int)) rfl (by kernel_rfl) (by kernel_rfl) (by kernel_rfl) (fun _ _ _ h => h) (Or.inl ⟨by kernel_rfl, fun wq hSw => ?_⟩) hS ?_
      · exact Sx.quo rfl rfl rfl (by decide) HJ.out.2.2.2.1
      simp only [Act.put, List.getElem_toArray, List.getElem_cons_zero, List.getElem_cons_succ, List.setIfInBounds_toArray, List.set_cons_zero, List.set_cons_succ]
      refine wpAnyH_take (i := 38) (v := .pointer (some ⟨w5.heap.size, 0, none⟩)) rfl (by kernel_rfl) (by kernel_rfl) (by kernel_rfl) (fun _ _ _ h => h) (Or.inl ⟨by kernel_rfl, fun wq hSw => ?_⟩) hS ?_
      · go_simp
      simp only [Act.put, List.getElem_toArray, List.getElem_cons_zero, List.getElem_cons_succ, List.setIfInBounds_toArray, List.set_cons_zero, List.set_cons_succ]
      refine wpAnyH_take (i := 39) (v := .int .u32 (CO : Int)) rfl (by kernel_rfl) (by kernel_rfl) (by kernel_rfl) (fun _ _ _ h => h) (Or.inl ⟨by kernel_rfl, fun wq hSw => ?_⟩) hS ?_
      · have p_ := keep_cell hSw p0; go_simp
      simp only [Act.put, List.getElem_toArray, List.getElem_cons_zero, List.getElem_cons_succ, List.setIfInBounds_toArray, List.set_cons_zero, List.set_cons_succ]
      refine wpAnyH_take (i := 40) (v := .pointer (some ⟨w.heap.size, 3, none⟩)) rfl (by kernel_rfl) (by kernel_rfl) (by kernel_rfl) (fun _ _ _ h => h) (Or.inl ⟨by kernel_rfl, fun wq hSw => ?_⟩) hS ?_
      · go_simp
      simp only [Act.put, List.getElem_toArray, List.getElem_cons_zero, List.getElem_cons_succ, List.setIfInBounds_toArray, List.set_cons_zero, List.set_cons_succ]
      refine wpAnyH_take (i := 41) (v := .string C) rfl (by kernel_rfl) (by kernel_rfl) (by kernel_rfl) (fun _ _ _ h => h) (Or.inl ⟨by kernel_rfl, fun wq hSw => ?_⟩) hS ?_
      · have p_ := keep_cell hSw c3; go_simp
      simp only [Act.put, List.getElem_toArray, List.getElem_cons_zero, List.getElem_cons_succ, List.setIfInBounds_toArray, List.set_cons_zero, List.set_cons_succ]
      refine wpAnyH_take (i := 42) (v := .int .i64 (C.size : Int)) rfl (by kernel_rfl) (by kernel_rfl) (by kernel_rfl) (fun _ _ _ h => h) (Or.inl ⟨by kernel_rfl, fun wq hSw => ?_⟩) hS ?_
      · exact Sx.lenS (by kernel_rfl) rfl rfl rfl
      simp only [Act.put, List.getElem_toArray, List.getElem_cons_zero, List.getElem_cons_succ, List.setIfInBounds_toArray, List.set_cons_zero, List.set_cons_succ]
      refine wpAnyH_take (i := 43) (v := .int .u32 (C.size : Int)) rfl (by kernel_rfl) (by kernel_rfl) (by kernel_rfl) (fun _ _ _ h => h) (Or.inl ⟨by kernel_rfl, fun wq hSw => ?_⟩) hS ?_
      · exact Sx.convI rfl (by kernel_rfl) (by kernel_rfl) rfl HJ.out.2.2.2.2.1
      simp only [Act.put, List.getElem_toArray, List.getElem_cons_zero, List.getElem_cons_succ, List.setIfInBounds_toArray, List.set_cons_zero, List.set_cons_succ]
      refine wpAnyH_take (i := 44) (v := .int .u32 (CC : Int)) rfl (by kernel_rfl) (by kernel_rfl) (by kernel_rfl) (fun _ _ _ h => h) (Or.inl ⟨by kernel_rfl, fun wq hSw => ?_⟩) hS ?_
      · exact Sx.add rfl rfl rfl HJ.out.2.2.2.2.2.1
      simp only [Act.put, List.getElem_toArray, List.getElem_cons_zero, List.getElem_cons_succ, List.setIfInBounds_toArray, List.set_cons_zero, List.set_cons_succ]
      refine wpAnyH_take (i := 45) (v := .int .u32 (CQ : Int)) rfl (by kernel_rfl) (by kernel_rfl) (by kernel_rfl) (fun _ _ _ h => h) (Or.inl ⟨by kernel_rfl, fun wq hSw => ?_⟩) hS ?_
      · exact Sx.quo rfl rfl rfl (by decide) HJ.out.2.2.2.2.2.2.1
      simp only [Act.put, List.getElem_toArray, List.getElem_cons_zero, List.getElem_cons_succ, List.setIfInBounds_toArray, List.set_cons_zero, List.set_cons_succ]
      refine wpAnyH_take (i := 46) (v := .bool true) rfl (by kernel_rfl) (by kernel_rfl) (by kernel_rfl) (fun _ _ _ h => h) (Or.inl ⟨by kernel_rfl, fun wq hSw => ?_⟩) hS ?_
      · exact Sx.gtI rfl rfl rfl HJ.out.2.2.2.2.2.2.2
      simp only [Act.put, List.getElem_toArray, List.getElem_cons_zero, List.getElem_cons_succ, List.setIfInBounds_toArray, List.set_cons_zero, List.set_cons_succ]
      refine wpAnyH_take (i := 47) (v := .bool true) rfl (by kernel_rfl) (by kernel_rfl) (by kernel_rfl) (fun _ _ _ h => h) (Or.inl ⟨by kernel_rfl, fun wq hSw => ?_⟩) hS ?_
      · exact Sx.pickT rfl rfl rfl
      simp only [Act.put, List.getElem_toArray, List.getElem_cons_zero, List.getElem_cons_succ, List.setIfInBounds_toArray, List.set_cons_zero, List.set_cons_succ]
      refine wpAnyH_take (i := 48) (v := .bool true) rfl (by kernel_rfl) (by kernel_rfl) (by kernel_rfl) (fun _ _ _ h => h) (Or.inl ⟨by kernel_rfl, fun wq hSw => ?_⟩) hS ?_
      · go_simp
      simp only [Act.put, List.getElem_toArray, List.getElem_cons_zero, List.getElem_cons_succ, List.setIfInBounds_toArray, List.set_cons_zero, List.set_cons_succ]
      refine wpAnyH_ready (rs := [49]) (by kernel_rfl) (by simp) (AllReadyH.cons rfl (fun K hK => ?_) AllReadyH.nil)
      refine if_yes (by kernel_rfl) ?_
      simp [go_sem]
      refine (K8.out _).mono ?_
      rintro e w6 ⟨rfl, hb6⟩
      have hS := below_tr hS hb6
      refine hK.out _ _ hS (fun _ => ?_)
      clear hK K hb6
      try simp only [Act.put, List.getElem_toArray, List.getElem_cons_zero, List.getElem_cons_succ, List.setIfInBounds_toArray, List.set_cons_zero, List.set_cons_succ]
      refine wpAnyH_take (i := 50) (v := .bool true) rfl (by kernel_rfl) (by kernel_rfl) (by kernel_rfl) (fun _ _ _ h => h) (Or.inl ⟨by kernel_rfl, fun wq hSw => ?_⟩) hS ?_
      · exact Sx.pickT rfl rfl rfl
      simp only [Act.put, List.getElem_toArray, List.getElem_cons_zero, List.getElem_cons_succ, List.setIfInBounds_toArray, List.set_cons_zero, List.set_cons_succ]
      refine wpAnyH_take (i := 51) (v := .bool true) rfl (by kernel_rfl) (by kernel_rfl) (by kernel_rfl) (fun _ _ _ h => h) (Or.inl ⟨by kernel_rfl, fun wq hSw => ?_⟩) hS ?_
      · go_simp
      simp only [Act.put, List.getElem_toArray, List.getElem_cons_zero, List.getElem_cons_succ, List.setIfInBounds_toArray, List.set_cons_zero, List.set_cons_succ]
      refine wpAnyH_done (by kernel_rfl) ?_ _
      have HB9 : Hid (Below w.heap.size w _) := below_tr HW8.out hS
      clear hS
      go_wp2
      go_ret
      exact ⟨rfl, HB9.out⟩
end Go.Proofs.YtgdflobcbhnimaaGreat
