/- What is proved here: the document's putting of bytes. -/
import Derived.Test.YtdhjmghfiodifaaGrq
import Derived.Test.YtdhjmghfiodifaaHRstore
import Derived.Test.YtdhjmghfiodifaaEachl
import Derived.Test.YtdhjmghfiodifaaGpt
namespace Go.Proofs.Ytdhjmghfiodifaa
open Go.RowKit
set_option linter.unusedVariables false
set_option linter.unusedSimpArgs false
set_option maxRecDepth 100000
def strN : Value → Nat
  | .string s => s.size
  | _ => 0
theorem sl_set {k : IntKind} {w : World} {v : Value} {xs : List (Nat × Int)} {n t i : Nat} {a0 a1 a3 : Option Addr} {b0 d0 b1 d1 b3 d3 : Nat} {z : Int} (h : Sl k w v xs) (hB : B4 w n t (.slice a0 b0 d0) (.slice a1 b1 d1) (.int .u64 z) (.slice a3 b3 d3)) (y : Value) : Sl k (w.setCell ⟨n, i, none⟩ y) v xs := by
  obtain ⟨a, cap, e, h1, h2, h3, h4⟩ := h
  refine ⟨a, cap, e, h1, h2, h3, fun j hj => ?_⟩
  obtain ⟨b, o, e1, e2, e3⟩ := h4 j hj
  have hne : b ≠ n := by
    rintro rfl
    rw [B4] at hB
    simp only [World.cell?, hB] at e2 e3
    rcases Nat.lt_or_ge (o + j * 2) 4 with c | c
    · have hc : o + j * 2 = 0 ∨ o + j * 2 = 1 ∨ o + j * 2 = 2 ∨ o + j * 2 = 3 := by omega
      rcases hc with c | c | c | c
      · simp [c] at e2
      · simp [c] at e2
      · simp [c] at e3
      · simp [c] at e2
    · simp [c] at e2
  exact ⟨b, o, e1, by rw [World.cell?_setCell_other _ _ _ _ (by simp [hne])]; exact e2, by rw [World.cell?_setCell_other _ _ _ _ (by simp [hne])]; exact e3⟩
theorem sl_setF {k : IntKind} {w : World} {v : Value} {xs : List (Nat × Int)} {n t i : Nat} {f0 : Int} {y1 : Value} (h : Sl k w v xs) (hB : B2 w n t (.int .i64 f0) y1) (y : Value) : Sl k (w.setCell ⟨n, i, none⟩ y) v xs := by
  obtain ⟨a, cap, e, h1, h2, h3, h4⟩ := h
  refine ⟨a, cap, e, h1, h2, h3, fun j hj => ?_⟩
  obtain ⟨b, o, e1, e2, e3⟩ := h4 j hj
  have hne : b ≠ n := by
    rintro rfl
    rw [B2] at hB
    simp only [World.cell?, hB] at e2 e3
    rcases Nat.lt_or_ge (o + j * 2) 2 with c | c
    · have hc : o + j * 2 = 0 ∨ o + j * 2 = 1 := by omega
      rcases hc with c | c
      · simp [c] at e2
      · simp [c] at e3
    · simp [c] at e2
  exact ⟨b, o, e1, by rw [World.cell?_setCell_other _ _ _ _ (by simp [hne])]; exact e2, by rw [World.cell?_setCell_other _ _ _ _ (by simp [hne])]; exact e3⟩
theorem pcM_whole2 (a p n : Nat) : ∀ k, k ≤ n → offP a n k = n → pcM a p n k = pcM a p n n := by
  intro k hk he
  obtain ⟨d, rfl⟩ : ∃ d, n = k + d := ⟨n - k, by omega⟩
  have key : ∀ d', d' ≤ d → pcM a p (k + d) (k + d') = pcM a p (k + d) k ∧ offP a (k + d) (k + d') = k + d := by
    intro d'
    induction d' with
    | zero => intro _; exact ⟨rfl, he⟩
    | succ d' ih =>
      intro hd
      obtain ⟨h1, h2⟩ := ih (by omega)
      refine ⟨?_, ?_⟩
      · rw [show k + (d' + 1) = (k + d') + 1 by omega, pcM, if_neg (by omega), List.append_nil, h1]
      · rw [show k + (d' + 1) = (k + d') + 1 by omega, offP, h2]; omega
  exact (key d (Nat.le_refl _)).1.symm
/-- What the loop knows. -/
structure RpI (w : World) (am ac ap : Option Addr) (nm pm nc pc np pp : Nat) (ms cs ps : List (Nat × Int)) (bs a : Nat) (s : ByteArray) (nG nR nF nL : Nat) (k : Nat) (S : ByteArray) (at_ : Nat) (xa : Option Addr) (xn xc : Nat) (C : List (Nat × Int)) (wr : World) : Prop where
  ks : k ≤ s.size
  sd : S.data.toList = s.data.toList.drop (offP a s.size k)
  at1 : at_ = bs + a + offP a s.size k
  cc : C = stL cs ((pcM a (bs + a) s.size k).map (trP s a))
  sc : Sl .u64 wr (.slice xa xn xc) C
  bG : B4 wr nG 29 (.slice am nm pm) (.slice xa xn xc) (.int .u64 (bs : Int)) (.slice ap np pp)
  bR : B4 wr nR 29 (.slice none 0 0) (.slice none 0 0) (.int .u64 0) (.slice none 0 0)
  bF : B2 wr nF 34 (.int .i64 0) (.int .u64 0)
  bl : Below w.heap.size w wr
def StT (vm : Value) (F1 : Int) (F2 : Nat) (C : List (Nat × Int)) (v : Value) (w : World) : Prop := ∃ xa xn xc, v = .tuple #[.agg #[vm, .slice xa xn xc], .agg #[.int .i64 F1, .int .u64 (F2 : Int)]] ∧ Sl .u64 w (.slice xa xn xc) C
def StA (vm : Value) (C : List (Nat × Int)) (v : Value) (w : World) : Prop := ∃ xa xn xc, v = .agg #[vm, .slice xa xn xc] ∧ Sl .u64 w (.slice xa xn xc) C
theorem new3 (w : World) (y0 y1 y2 y3 : Value) : ∃ Xa Xb X nR nF, w.alloc (.cells #[y0, y1, y2, y3] 29) = Xa ∧ Xa.alloc (.cells #[.slice none 0 0, .slice none 0 0, .int .u64 0, .slice none 0 0] 29) = Xb ∧ Xb.alloc (.cells #[.int .i64 0, .int .u64 0] 34) = X ∧ Xa.heap.size = nR ∧ Xb.heap.size = nF ∧
    B4 X w.heap.size 29 y0 y1 y2 y3 ∧ B4 X nR 29 (.slice none 0 0) (.slice none 0 0) (.int .u64 0) (.slice none 0 0) ∧ B2 X nF 34 (.int .i64 0) (.int .u64 0) ∧ Below w.heap.size w X ∧ w.heap.size < nR ∧ nR < nF ∧ nF < X.heap.size := by
  obtain ⟨Xa, hXa⟩ : ∃ z, w.alloc (.cells #[y0, y1, y2, y3] 29) = z := ⟨_, rfl⟩
  have h0 : B4 Xa w.heap.size 29 y0 y1 y2 y3 := by rw [← hXa]; exact B4.new w 29 _ _ _ _
  have b0 : Below w.heap.size w Xa := by rw [← hXa]; exact (Below.refl _ _).alloc (Nat.le_refl _) _
  obtain ⟨Xb, hXb⟩ : ∃ z, Xa.alloc (.cells #[.slice none 0 0, .slice none 0 0, .int .u64 0, .slice none 0 0] 29) = z := ⟨_, rfl⟩
  have h1 : B4 Xb Xa.heap.size 29 (.slice none 0 0) (.slice none 0 0) (.int .u64 0) (.slice none 0 0) := by rw [← hXb]; exact B4.new Xa 29 _ _ _ _
  have b1 : Below Xa.heap.size Xa Xb := by rw [← hXb]; exact (Below.refl _ _).alloc (Nat.le_refl _) _
  obtain ⟨X, hX⟩ : ∃ z, Xb.alloc (.cells #[.int .i64 0, .int .u64 0] 34) = z := ⟨_, rfl⟩
  have h2 : B2 X Xb.heap.size 34 (.int .i64 0) (.int .u64 0) := by rw [← hX]; exact B2.new Xb 34 _ _
  have b2 : Below Xb.heap.size Xb X := by rw [← hX]; exact (Below.refl _ _).alloc (Nat.le_refl _) _
  exact ⟨Xa, Xb, X, _, _, hXa, hXb, hX, rfl, rfl, (h0.keep b1).keep b2, h1.keep b2, h2, below_tr b0 (below_tr b1 b2), h0.lt, h1.lt, h2.lt⟩
/-- The results stored, and read. -/
theorem res42 {w wr : World} {nR nF : Nat} {z0 z1 z2 z3 f0 f1 : Value} (hR : B4 wr nR 29 z0 z1 z2 z3) (hF : B2 wr nF 34 f0 f1) (hne : nR ≠ nF) (hb : Below w.heap.size w wr) (h1 : w.heap.size ≤ nR) (h2 : w.heap.size ≤ nF) (y0 y1 y2 y3 x y : Value) :
    ∃ Wc Wd, (((wr.setCell ⟨nR, 0, none⟩ y0).setCell ⟨nR, 1, none⟩ y1).setCell ⟨nR, 2, none⟩ y2).setCell ⟨nR, 3, none⟩ y3 = Wc ∧ (Wc.setCell ⟨nF, 0, none⟩ x).setCell ⟨nF, 1, none⟩ y = Wd ∧ B2 Wc nF 34 f0 f1 ∧ B4 Wd nR 29 y0 y1 y2 y3 ∧ B2 Wd nF 34 x y ∧ Below w.heap.size w Wd := by
  have q := set4_by wr nR y0 y1 y2 y3
  have g2 := hF.by q (Ne.symm hne)
  refine ⟨_, _, rfl, rfl, g2, (hR.set y0 y1 y2 y3).by (set2_by _ nF x y) hne, g2.set x y, ?_⟩
  exact (((((hb.setCell h1 y0).setCell h1 y1).setCell h1 y2).setCell h1 y3).setCell h2 x).setCell h2 y
set_option maxHeartbeats 8000000 in
theorem rput43 (vm vc vp : Value) (bs a : Nat) (s : ByteArray) (need : Int) (ms cs ps : List (Nat × Int)) (w : World) (hsl : SlG w vm vc vp ms cs ps) (hf : FitG ms cs ps bs) (hw : Words cs) (hrc : ∀ y ∈ cs, y.1 < 18446744073709551616) (ha : a < 4294967296) (hs : s.size ≤ 300) (hfew : cs.length ≤ 100) (hq : need = 0 ∨ need = 1 ∨ need = 2 ∨ need = 4) :
    Calls Try.prog 43 #[.agg #[vm, vc, .int .u64 (bs : Int), vp], .int .u32 (a : Int), .string s, .int .i64 need] w fun e w' => ∃ vm' vc' vp', e = .returned (.tuple #[.agg #[vm', vc', .int .u64 (bs : Int), vp'], .agg #[.int .i64 (ffN ps a s.size need).1, .int .u64 ((ffN ps a s.size need).2 : Int)]]) ∧ SlG w' vm' vc' vp' ms (chL cs ps bs a s need) ps ∧ Below w.heap.size w w' := by
  obtain ⟨am, pm, rfl, _⟩ := id hsl.1
  obtain ⟨ac, pc, rfl, _⟩ := id hsl.2.1
  obtain ⟨ap, pp, rfl, _⟩ := id hsl.2.2
  obtain ⟨nm, hnm⟩ : ∃ z, z = ms.length := ⟨_, rfl⟩
  obtain ⟨nc, hnc⟩ : ∃ z, z = cs.length := ⟨_, rfl⟩
  obtain ⟨np, hnp⟩ : ∃ z, z = ps.length := ⟨_, rfl⟩
  rw [← hnm, ← hnc, ← hnp] at hsl ⊢
  clear hnm hnc hnp
  obtain ⟨Xa, Xb, X, nR, nF, hXa, hXb, hX, hnR, hnF, BG, BR, BF, hb, l1, l2, l3⟩ := new3 w (.slice am nm pm) (.slice ac nc pc) (.int .u64 (bs : Int)) (.slice ap np pp)
  obtain ⟨nG, hnG⟩ : ∃ z, w.heap.size = z := ⟨_, rfl⟩
  rw [hnG] at BG l1
  have R32 := rask32 (.slice am nm pm) (.slice ac nc pc) (.slice ap np pp) bs a s.size need ps X ⟨_, _, _, rfl⟩ ⟨_, _, _, rfl⟩ (hsl.keep hb).2.2 (fun x hx => (hf.pg x hx).1) (fun x hx => (hf.pg x hx).2.2.1) ha (by omega) hq
  have HSL : Hid (∀ w', Below w.heap.size w w' → SlG w' (.slice am nm pm) (.slice ac nc pc) (.slice ap np pp) ms cs ps) := fun w' hb' => hsl.keep hb'
  have HCH0 : Hid ((ffN ps a s.size need).1 ≠ 0 → chL cs ps bs a s need = cs) := fun h => by show _ = _; rw [chL, if_neg h]
  have HCH1 : Hid ((ffN ps a s.size need).1 = 0 → chL cs ps bs a s need = stL cs ((pcM a (bs + a) s.size s.size).map (trP s a))) := fun h => by show _ = _; rw [chL, if_pos h]
  have HINV : Hid ((ffN ps a s.size need).1 = 0 → ∀ k, k ≤ s.size → PutI ms cs bs a s k (stL cs ((pcM a (bs + a) s.size k).map (trP s a)))) := fun h k hk => put_inv hf.fq hw hrc (by omega) (fit_host hf ha (Or.inr rfl) h) k hk
  have HNF : Hid ((ffN ps a s.size need).1 = 0 → ∀ x ∈ pcM a (bs + a) s.size s.size, (faultFrom ms x.2.1 2 0 x.2.2).1 = 0) := fun h => fit_host hf ha (Or.inr rfl) h
  obtain ⟨F, hF⟩ : ∃ z, z = ffN ps a s.size need := ⟨_, rfl⟩
  rw [← hF] at R32 HCH0 HCH1 HINV HNF ⊢
  obtain ⟨CH, hCH⟩ : ∃ z, z = chL cs ps bs a s need := ⟨_, rfl⟩
  rw [← hCH] at HCH0 HCH1 ⊢
  obtain ⟨kd, fa⟩ := F
  simp only at R32 HCH0 HCH1 HINV HNF ⊢
  have hle := hf.le
  have hal : bs % 8 = 0 := by have := hf.al; omega
  have HLE : Hid (bs ≤ 4611686018427387904 ∧ bs % 8 = 0 ∧ cs.length ≤ 100 ∧ s.size ≤ 300) := ⟨hle, hal, hfew, hs⟩
  have hss : (s.size : Int) ≤ 65536 := by omega
  obtain ⟨c0, c1, c2, c3⟩ := BG.cells
  have HB0 : Hid (Below w.heap.size w X) := hb
  clear hF hCH hsl hf hw hrc hq hfew hb
  go_enter Try.func43, Try.ntmps43
  go_wp2_with fail
  refine R32.mono ?_
  rintro e wy0 ⟨rfl, hby⟩
  clear R32
  obtain ⟨Wa6, W6, hWa6, hW6, ⟨qa6, qb6, qc6, qd6⟩, GL, hb6⟩ := newF wy0 (.int .i64 kd) (.int .u64 (fa : Int))
  have hb7 := below_tr hby hb6
  have BG := BG.keep hb7
  have BR := BR.keep hb7
  have BF := BF.keep hb7
  obtain ⟨nL, hnL⟩ : ∃ z, wy0.heap.size = z := ⟨_, rfl⟩
  have hlL : nF < nL := by have := hby.size; omega
  rw [hnL] at GL hW6 qa6 qb6 qc6 qd6
  obtain ⟨c0, c1, c2, c3⟩ := BG.cells
  have k0 := GL.c0
  have k1 := GL.c1
  have bW := below_tr HB0.out hb7
  have HNE : Hid (w.heap.size = nG ∧ nG < nR ∧ nR < nF ∧ nF < nL) := ⟨hnG, l1, l2, hlL⟩
  clear hby hb6 hb7 HB0
  by_cases h0 : kd = 0
  · have hb0 : (kd != 0) = false := by simp [h0]
    have HCH : Hid _ := HCH1.out h0
    have HIV : Hid _ := HINV.out h0
    have HNO : Hid _ := HNF.out h0
    have K26 := rplace17 (.slice am nm pm) (.slice ac nc pc) (.slice ap np pp) bs a hle ha W6 ⟨_, _, _, rfl⟩ ⟨_, _, _, rfl⟩ ⟨_, _, _, rfl⟩
    obtain ⟨at0, hat0⟩ : ∃ z, z = bs + a := ⟨_, rfl⟩
    rw [← hat0] at K26
    have HAT : Hid (at0 = bs + a) := hat0
    clear h0 HCH0 HCH1 HINV HNF hat0
    go_wp2_with fail
    refine K26.mono ?_
    rintro e w8 ⟨rfl, hb8⟩
    clear K26
    have I0 : RpI w am ac ap nm pm nc pc np pp ms cs ps bs a s nG nR nF nL 0 s at0 ac nc pc cs w8 :=
      ⟨Nat.zero_le _, by simp [offP], by simp [offP, HAT.out], by simp [stL, pcM], ((HSL.out w8 (below_tr bW hb8)).2.1), BG.keep hb8, BR.keep hb8, BF.keep hb8, below_tr bW hb8⟩
    have L0 : B2 w8 nL 34 (.int .i64 kd) (.int .u64 (fa : Int)) := GL.keep hb8
    clear BG BR BF GL bW c0 c1 c2 c3 k0 k1 hb8
    go_wp2
    go_loopw [2, 11] (fun x y wr => ∃ (k : Nat) (S : ByteArray) (at_ : Nat) (xa : Option Addr) (xn xc : Nat) (C : List (Nat × Int)), x = .string S ∧ y = .int .u64 (at_ : Int) ∧ RpI w am ac ap nm pm nc pc np pp ms cs ps bs a s nG nR nF nL k S at_ xa xn xc C wr ∧ B2 wr nL 34 (.int .i64 kd) (.int .u64 (fa : Int))) (fun x _ _ => strN x)
    case atStart => exact ⟨0, s, at0, ac, nc, pc, cs, rfl, rfl, I0, L0⟩
    case round =>
      obtain ⟨k, S, at_, xa, xn, xc, C, rfl, rfl, I, hL⟩ := hrel
      obtain ⟨c0, c1, c2, c3⟩ := I.bG.cells
      have HI : Hid (RpI w am ac ap nm pm nc pc np pp ms cs ps bs a s nG nR nF nL k S at_ xa xn xc C wr) := I
      have HL : Hid (B2 wr nL 34 (.int .i64 kd) (.int .u64 (fa : Int))) := hL
      have k0 := hL.c0
      have k1 := hL.c1
      have hSl : S.size = s.size - offP a s.size k := by
        have h1 : S.data.toList.length = S.size := Array.length_toList
        have h2 : s.data.toList.length = s.size := Array.length_toList
        rw [← h1, I.sd, List.length_drop, h2]
      have hol := offP_le a s.size k
      by_cases hend : S.size = 0
      · have hkf : offP a s.size k = s.size := by omega
        obtain rfl : S = ⟨#[]⟩ := by
          apply ByteArray.ext
          apply Array.toList_inj.1
          have h2 : S.data.toList.length = S.size := Array.length_toList
          rw [hend] at h2
          simpa using List.length_eq_zero_iff.1 h2
        have HCF : Hid (C = CH) := by
          have h1 := I.cc
          have h2 := HCH.out
          have h3 : pcM a (bs + a) s.size k = pcM a (bs + a) s.size s.size := pcM_whole2 a (bs + a) s.size k I.ks hkf
          show _ = _
          rw [h1, h2, h3]
        obtain ⟨Wc, Wd, hWc, hWd, bFc, BR, BF, bW⟩ := res42 (w := w) I.bR I.bF (by have := HNE.out; omega) I.bl (by have := HNE.out; omega) (by have := HNE.out; omega) (.slice am nm pm) (.slice xa xn xc) (.int .u64 (bs : Int)) (.slice ap np pp) (.int .i64 kd) (.int .u64 (fa : Int))
        obtain ⟨z0, z1, z2, z3⟩ := I.bR.cells
        obtain ⟨f0, f1, f2, f3⟩ := I.bR.frees
        have g0 := bFc.c0
        have g1 := bFc.c1
        have g2 := bFc.f0
        have g3 := bFc.f1
        have BLc : B2 Wc nL 34 (.int .i64 kd) (.int .u64 (fa : Int)) := by rw [← hWc]; exact hL.by (set4_by wr nR _ _ _ _) (by have := HNE.out; omega)
        have j0 := BLc.c0
        have j1 := BLc.c1
        have HRES : Hid (SlG Wd (.slice am nm pm) (.slice xa xn xc) (.slice ap np pp) ms C ps) := by
          have h := HSL.out Wd bW
          refine ⟨h.1, ?_, h.2.2⟩
          rw [← hWd, ← hWc]
          have hz := I.bR
          have s1 := sl_set (i := 0) I.sc hz (.slice am nm pm)
          have B1 := heap_setCell_same wr nR 0 _ 29 (.slice am nm pm) hz
          have s2 := sl_set (i := 1) (t := 29) (z := 0) (a0 := am) (b0 := nm) (d0 := pm) (a1 := none) (b1 := 0) (d1 := 0) (a3 := none) (b3 := 0) (d3 := 0) s1 B1 (.slice xa xn xc)
          have B2' := heap_setCell_same _ nR 1 _ 29 (.slice xa xn xc) B1
          have s3 := sl_set (i := 2) (t := 29) (z := 0) (a0 := am) (b0 := nm) (d0 := pm) (a1 := xa) (b1 := xn) (d1 := xc) (a3 := none) (b3 := 0) (d3 := 0) s2 B2' (.int .u64 (bs : Int))
          have B3' := heap_setCell_same _ nR 2 _ 29 (.int .u64 (bs : Int)) B2'
          have s4 := sl_set (i := 3) (t := 29) (z := (bs : Int)) (a0 := am) (b0 := nm) (d0 := pm) (a1 := xa) (b1 := xn) (d1 := xc) (a3 := none) (b3 := 0) (d3 := 0) s3 B3' (.slice ap np pp)
          rw [hWc] at s4 ⊢
          exact sl_setF (f0 := kd) (y1 := .int .u64 0) (t := 34) (sl_setF s4 bFc _) (heap_setCell_same _ nF 0 _ 34 (.int .i64 kd) bFc) _
        rw [HCF.out] at HRES
        clear I hL HI HL HSL HCH HIV HNO bFc hSl hol hkf
        go_wp2
        go_region
        all_goals (
          go_wp2
          have u0 := BR.cells
          have v0 := BF.c0
          have v1 := BF.c1
          obtain ⟨u0, u1, u2, u3⟩ := u0
          refine bodyPost_ret (v := .tuple #[.agg #[.slice am nm pm, .slice xa xn xc, .int .u64 (bs : Int), .slice ap np pp], .agg #[.int .i64 kd, .int .u64 (fa : Int)]]) ?_ rfl ⟨_, _, _, rfl, HRES.out.keep (Below.refl _ _).drew, bW.drew⟩
          rw [results_cells rfl]; simp [go_sem, u0, u1, u2, u3, v0, v1])
      · have hkl : offP a s.size k < s.size := by omega
        obtain ⟨m, hm⟩ : ∃ z, z = min (8 - (a + offP a s.size k) % 8) (s.size - offP a s.size k) := ⟨_, rfl⟩
        have m1 : 1 ≤ m := by omega
        have m8 : m ≤ 8 := by omega
        have hmS : m ≤ S.size := by omega
        have hatm : at_ % 8 = (a + offP a s.size k) % 8 := by have := I.at1; have := HLE.out.2.1; omega
        obtain ⟨r8, hr8⟩ : ∃ z, z = at_ % 8 := ⟨_, rfl⟩
        have hr88 : r8 < 8 := by omega
        have hatb : at_ < 18446744073709551616 := by have := I.at1; have := HLE.out; omega
        have x1 : (at_ : Int) % 8 = (r8 : Int) := by omega
        have x1' : (at_ : Int).tmod 8 = (r8 : Int) := by rw [Int.tmod_eq_emod_of_nonneg (by omega)]; omega
        have x2 : IntKind.i64.wrap (r8 : Int) = (r8 : Int) := by rw [IntKind.wrap_i64]; omega
        have x3 : wrap64 (8 - (r8 : Int)) = 8 - (r8 : Int) := by unfold wrap64; omega
        have x4 : min (8 - (r8 : Int)) (S.size : Int) = (m : Int) := by omega
        have hSz : (S.size : Int) ≠ 0 := by omega
        obtain ⟨T, hT⟩ : ∃ z : ByteArray, z = S.extract 0 m := ⟨_, rfl⟩
        obtain ⟨S2, hS2⟩ : ∃ z : ByteArray, z = S.extract m S.size := ⟨_, rfl⟩
        have hTl : T.data.toList = (s.data.toList.drop (offP a s.size k)).take m := by
          rw [hT, ByteArray.data_extract, Array.toList_extract, I.sd]
          simp [List.extract]
        have hS2l : S2.data.toList = s.data.toList.drop (offP a s.size k + m) := by
          rw [hS2, ByteArray.data_extract, Array.toList_extract, I.sd]
          have h2 : s.data.toList.length = s.size := Array.length_toList
          rw [List.extract_eq_take_drop, List.drop_drop]
          rw [List.take_of_length_le (by rw [List.length_drop, h2]; omega)]
        have hext : S.extract 0 m = T := hT.symm
        have hext2 : S.extract m S.size = S2 := hS2.symm
        obtain ⟨vz, hv⟩ : ∃ z, z = Go.Proofs.Ytdhjmghfiodifaa.W.leS T := ⟨_, rfl⟩
        have hTz : T.size = m := by
          have h1 : T.data.toList.length = T.size := Array.length_toList
          have h2 : s.data.toList.length = s.size := Array.length_toList
          rw [← h1, hTl, List.length_take, List.length_drop, h2]
          omega
        have KL : Hid (∀ w', Calls Try.prog 69 #[.string T] w' fun e w'' => e = .returned (.int .u64 (vz : Int)) ∧ Below w'.heap.size w' w'') := fun w' => by
          rw [hv]
          exact (W.rle_any T w' (by omega)).mono (fun e w'' h => ⟨h.1, by rw [h.2]; exact Below.refl _ _⟩)
        have hvl : vz < 18446744073709551616 := by
          rw [hv, W.leS]
          split
          · rename_i h
            refine Nat.lt_of_lt_of_le (W.beL_lt _) ?_
            rw [List.length_reverse]
            exact Nat.le_trans (Nat.pow_le_pow_right (by decide) (show T.data.toList.length ≤ 8 from h)) (by decide)
          · decide
        obtain ⟨F1, hF1⟩ : ∃ z, z = (faultFrom ms at_ 2 0 m).1 := ⟨_, rfl⟩
        obtain ⟨F2, hF2⟩ : ∃ z, z = (faultFrom ms at_ 2 0 m).2 := ⟨_, rfl⟩
        obtain ⟨C2, hC2⟩ : ∃ z, z = stL cs ((pcM a (bs + a) s.size (k + 1)).map (trP s a)) := ⟨_, rfl⟩
        have hks := I.ks
        have hkn : k < s.size := by
          have h1 := offP_ge a s.size k hkl
          omega
        have hF0 : (faultFrom ms at_ 2 0 m).1 = 0 := by
          have h := HNO.out _ (pcM_mem a (bs + a) s.size k hkl s.size hkn)
          simp only [pcOf] at h
          rw [← I.at1, ← hm] at h
          exact h
        have hst : storeV ms C at_ m vz = C2 := by
          rw [storeV, if_pos hF0, hC2, pcM, if_pos hkl, List.map_append, List.map_cons, List.map_nil, stL_snoc]
          simp only [trP, pcOf]
          rw [← I.cc, ← I.at1, ← hm, show a + offP a s.size k - a = offP a s.size k by omega, hv]
          congr 2
          apply ByteArray.ext
          apply Array.toList_inj.1
          rw [hTl]
        have KS : Hid (∀ w', Below wr.heap.size wr w' → Calls Try.prog 68 #[.agg #[.slice am nm pm, .slice xa xn xc], .int .u64 (at_ : Int), .int .i64 (m : Int), .int .u64 (vz : Int)] w' fun e w'' => ∃ x1 x2 x3, e = .returned (.tuple #[.agg #[.slice am nm pm, .slice x1 x2 x3], .agg #[.int .i64 F1, .int .u64 (F2 : Int)]]) ∧ Sl .u64 w'' (.slice x1 x2 x3) C2 ∧ Below w'.heap.size w' w'') := fun w' hb' => by
          have PI := HIV.out k hks
          rw [← HI.out.cc] at PI
          have hlen := PI.ln
          have := HLE.out
          refine (rstore23 (.slice am nm pm) (.slice xa xn xc) ms C at_ m vz w' ((HSL.out wr HI.out.bl).1.keep hb') (HI.out.sc.keep hb') PI.fq (by omega) PI.ww PI.rc hatb m1 m8 hvl).mono ?_
          rintro e w'' ⟨vc', rfl, h1, h2⟩
          rw [hst] at h1
          obtain ⟨x1, x3, rfl, _⟩ := id h1
          rw [hF1, hF2]
          exact ⟨x1, _, x3, rfl, h1, h2⟩
        obtain ⟨at2, hat2⟩ : ∃ z, z = at_ + m := ⟨_, rfl⟩
        have HX : Hid (k + 1 ≤ s.size ∧ S2.data.toList = s.data.toList.drop (offP a s.size (k + 1)) ∧ at2 = bs + a + offP a s.size (k + 1) ∧ C2 = stL cs ((pcM a (bs + a) s.size (k + 1)).map (trP s a))) := by
          have h1 := I.at1
          have e1 : offP a s.size (k + 1) = offP a s.size k + m := by rw [offP, ← hm]
          refine ⟨by omega, by rw [e1]; exact hS2l, by rw [e1]; omega, hC2⟩
        have x5 : IntKind.u64.wrap (m : Int) = (m : Int) := by rw [IntKind.wrap_u64]; omega
        have x6 : IntKind.u64.wrap ((at_ : Int) + (m : Int)) = (at2 : Int) := by rw [IntKind.wrap_u64]; have := I.at1; have := HLE.out; omega
        have hm1 : (m : Int) ≤ (S.size : Int) := by omega
        have hm2 : (m : Int) ≤ 8 := by omega
        have hmeas : S2.size < S.size := by
          have h1 : S2.data.toList.length = S2.size := Array.length_toList
          have h2 : s.data.toList.length = s.size := Array.length_toList
          rw [← h1, hS2l, List.length_drop, h2]
          omega
        have hne : ¬ S.toList = [] := by
          rw [ByteArray.toList_eq]
          intro e
          have h2 : S.data.toList.length = S.size := Array.length_toList
          rw [e] at h2
          exact hend h2.symm
        have hse : (S.toList == []) = false := by simpa using hne
        have hse2 : (S.toList = []) = False := by simpa using hne
        have hse3 : S.toList.isEmpty = false := by simpa using hne
        clear hne hend hT hS2 hTl hS2l hv hF1 hF2 hC2 hF0 hst hat2 hr8 hatm hm hSl hol hkl hks hkn I hL hTz hvl HIV HNO k0 k1
        go_wp2
        refine E2.wp_region_late (R := Ext) [⟨42, fun v _ => v = .pointer (some ⟨nG, 0, none⟩), fun _ _ _ _ h => h⟩, ⟨43, fun v _ => v = .agg #[.slice am nm pm, .slice xa xn xc], fun _ _ _ _ h => h⟩, ⟨44, fun v _ => v = .int .u64 (at_ : Int), fun _ _ _ _ h => h⟩, ⟨45, fun v _ => v = .int .i64 (m : Int), fun _ _ _ _ h => h⟩, ⟨46, fun v _ => v = .string S, fun _ _ _ _ h => h⟩, ⟨47, fun v _ => v = .int .i64 (m : Int), fun _ _ _ _ h => h⟩, ⟨48, fun v _ => v = .string T, fun _ _ _ _ h => h⟩, ⟨49, fun v _ => v = .int .u64 (vz : Int), fun _ _ _ _ h => h⟩, ⟨50, fun v w => StT (.slice am nm pm) F1 F2 C2 v w, fun v w w' hb ⟨x1, x2, x3, e, h⟩ => ⟨x1, x2, x3, e, h.keep hb⟩⟩, ⟨41, fun v w => StT (.slice am nm pm) F1 F2 C2 v w, fun v w w' hb ⟨x1, x2, x3, e, h⟩ => ⟨x1, x2, x3, e, h.keep hb⟩⟩, ⟨51, fun v w => StA (.slice am nm pm) C2 v w, fun v w w' hb ⟨x1, x2, x3, e, h⟩ => ⟨x1, x2, x3, e, h.keep hb⟩⟩, ⟨52, fun v _ => v = .agg #[.int .i64 F1, .int .u64 (F2 : Int)], fun _ _ _ _ h => h⟩, ⟨53, fun v _ => v = .pointer (some ⟨nG, 0, none⟩), fun _ _ _ _ h => h⟩] _ 13 11 (by kernel_rfl) rfl (by kernel_rfl) (by decide) (by decide) (by kernel_rfl) (Below.drew (Below.refl _ _)) (fun _ _ _ h1 h2 => below_tr h1 h2) (fun QQ => ⟨?_, ?_, ?_, ?_, ?_, ?_, ?_, ?_, ?_, ?_, ?_, ?_, ?_, trivial⟩) (fun f wy hR hf A hA => ?_) (fun f wy hR hf A hA i hi hmi => ?_)
        · intro A wx hR hout hdep K hK
          have h4 : A.tmps[4]?.getD undef = .pointer (some ⟨nG, 0, none⟩) := hout 4 (by kernel_rfl)
          refine if_yes (by kernel_rfl) ?_
          simp [go_sem, h4, hm1, hm2, hext]
          exact hK.out _ _ (Below.refl _ _) rfl
        · intro A wx hR hout hdep K hK
          have h42 : A.tmps[42]?.getD undef = .pointer (some ⟨nG, 0, none⟩) := hdep 42 (by kernel_rfl)
          refine if_yes (by kernel_rfl) ?_
          have c0 := keep_cell hR c0
          have c1 := keep_cell hR c1
          simp [go_sem, h42, c0, c1, hm1, hm2, hext]
          exact hK.out _ _ (Below.refl _ _) rfl
        · intro A wx hR hout hdep K hK
          have h11 : A.tmps[11]?.getD undef = .int .u64 (at_ : Int) := hout 11 (by kernel_rfl)
          refine if_yes (by kernel_rfl) ?_
          simp [go_sem, h11, hm1, hm2, hext]
          exact hK.out _ _ (Below.refl _ _) rfl
        · intro A wx hR hout hdep K hK
          have h12 : A.tmps[12]?.getD undef = .int .i64 (m : Int) := hout 12 (by kernel_rfl)
          refine if_yes (by kernel_rfl) ?_
          simp [go_sem, h12, hm1, hm2, hext]
          exact hK.out _ _ (Below.refl _ _) rfl
        · intro A wx hR hout hdep K hK
          have h2 : A.tmps[2]?.getD undef = .string S := hout 2 (by kernel_rfl)
          refine if_yes (by kernel_rfl) ?_
          simp [go_sem, h2, hm1, hm2, hext]
          exact hK.out _ _ (Below.refl _ _) rfl
        · intro A wx hR hout hdep K hK
          have h12 : A.tmps[12]?.getD undef = .int .i64 (m : Int) := hout 12 (by kernel_rfl)
          refine if_yes (by kernel_rfl) ?_
          simp [go_sem, h12, hm1, hm2, hext]
          exact hK.out _ _ (Below.refl _ _) rfl
        · intro A wx hR hout hdep K hK
          have h46 : A.tmps[46]?.getD undef = .string S := hdep 46 (by kernel_rfl)
          have h47 : A.tmps[47]?.getD undef = .int .i64 (m : Int) := hdep 47 (by kernel_rfl)
          refine if_yes (by kernel_rfl) ?_
          simp [go_sem, h46, h47, hm1, hm2, hext]
          exact hK.out _ _ (Below.refl _ _) rfl
        · intro A wx hR hout hdep K hK
          have h48 : A.tmps[48]?.getD undef = .string T := hdep 48 (by kernel_rfl)
          refine if_yes (by kernel_rfl) ?_
          simp [go_sem, h48, hm1, hm2, hext]
          refine (KL.out _).mono ?_
          rintro e wG ⟨rfl, hbG⟩
          exact hK.out _ _ hbG rfl
        · intro A wx hR hout hdep K hK
          have h43 : A.tmps[43]?.getD undef = .agg #[.slice am nm pm, .slice xa xn xc] := hdep 43 (by kernel_rfl)
          have h44 : A.tmps[44]?.getD undef = .int .u64 (at_ : Int) := hdep 44 (by kernel_rfl)
          have h45 : A.tmps[45]?.getD undef = .int .i64 (m : Int) := hdep 45 (by kernel_rfl)
          have h49 : A.tmps[49]?.getD undef = .int .u64 (vz : Int) := hdep 49 (by kernel_rfl)
          refine if_yes (by kernel_rfl) ?_
          simp [go_sem, h43, h44, h45, h49, hm1, hm2, hext]
          refine (KS.out _ hR).mono ?_
          rintro e wG ⟨x1, x2, x3, rfl, hoG, hbG⟩
          exact hK.out _ _ hbG ⟨x1, x2, x3, rfl, hoG⟩
        · intro A wx hR hout hdep K hK
          have h50 := hdep 50 (by kernel_rfl)
          refine if_yes (by kernel_rfl) ?_
          obtain ⟨x1, x2, x3, e, o⟩ : StT (.slice am nm pm) F1 F2 C2 _ wx := h50
          simp [go_sem, e]
          exact hK.out _ _ (Below.refl _ _) ⟨x1, x2, x3, rfl, o⟩
        · intro A wx hR hout hdep K hK
          have h41 := hdep 41 (by kernel_rfl)
          refine if_yes (by kernel_rfl) ?_
          obtain ⟨x1, x2, x3, e, o⟩ : StT (.slice am nm pm) F1 F2 C2 _ wx := h41
          simp [go_sem, e]
          exact hK.out _ _ (Below.refl _ _) ⟨x1, x2, x3, rfl, o⟩
        · intro A wx hR hout hdep K hK
          have h41 := hdep 41 (by kernel_rfl)
          refine if_yes (by kernel_rfl) ?_
          obtain ⟨x1, x2, x3, e, o⟩ : StT (.slice am nm pm) F1 F2 C2 _ wx := h41
          simp [go_sem, e]
          exact hK.out _ _ (Below.refl _ _) rfl
        · intro A wx hR hout hdep K hK
          have h4 : A.tmps[4]?.getD undef = .pointer (some ⟨nG, 0, none⟩) := hout 4 (by kernel_rfl)
          refine if_yes (by kernel_rfl) ?_
          simp [go_sem, h4, hm1, hm2, hext]
          exact hK.out _ _ (Below.refl _ _) rfl
        · obtain ⟨ya, yn, yc, e51, o51⟩ : StA (.slice am nm pm) C2 (f 51) wy := hf 51 (by kernel_rfl)
          have e53 : f 53 = .pointer (some ⟨nG, 0, none⟩) := hf 53 (by kernel_rfl)
          have e52 : f 52 = .agg #[.int .i64 F1, .int .u64 (F2 : Int)] := hf 52 (by kernel_rfl)
          simp only [putSl, E2.putSl, List.take_succ_cons, List.take_zero, Act.put, List.setIfInBounds_toArray, List.set_cons_zero, List.set_cons_succ, e51, e53, e52] at hA
          subst hA
          have DG : B4 wy nG 29 (.slice am nm pm) (.slice xa xn xc) (.int .u64 (bs : Int)) (.slice ap np pp) := HI.out.bG.keep hR
          have q0 := DG.cells.1
          have q1 := DG.cells.2.1
          have q2 := DG.frees.1
          have q3 := DG.frees.2.1
          refine wpAny_ready (rs := [13]) (by kernel_rfl) (by simp) ?_
          refine AllReady.cons rfl (fun K hK => ?_) AllReady.nil
          refine if_yes (by kernel_rfl) ?_
          simp [go_sem, q0, q1, q2, q3]
          refine hK _ _ ?_
          clear hK K
          refine wpAny_done (by kernel_rfl) ?_ _
          have HN : Hid (RpI w am ac ap nm pm nc pc np pp ms cs ps bs a s nG nR nF nL (k + 1) S2 at2 ya yn yc C2 ((wy.setCell ⟨nG, 0, none⟩ (.slice am nm pm)).setCell ⟨nG, 1, none⟩ (.slice ya yn yc))) := by
            have I := HI.out
            have hB := HNE.out
            have h1 := set2_by wy nG (.slice am nm pm) (.slice ya yn yc)
            refine ⟨HX.out.1, HX.out.2.1, HX.out.2.2.1, HX.out.2.2.2, ?_, ?_, (I.bR.keep hR).by h1 (by omega), (I.bF.keep hR).by h1 (by omega), ((below_tr I.bl hR).setCell (by simp; omega) _).setCell (by simp; omega) _⟩
            · refine sl_set (sl_set o51 DG _) (t := 29) (z := (bs : Int)) (a0 := am) (b0 := nm) (d0 := pm) (a1 := xa) (b1 := xn) (d1 := xc) (a3 := ap) (b3 := np) (d3 := pp) ?_ _
              exact heap_setCell_same wy nG 0 _ 29 (.slice am nm pm) DG
            · exact heap_setCell_same _ nG 1 _ 29 (.slice ya yn yc) (heap_setCell_same wy nG 0 _ 29 (.slice am nm pm) DG)
          have HLL : Hid (B2 ((wy.setCell ⟨nG, 0, none⟩ (.slice am nm pm)).setCell ⟨nG, 1, none⟩ (.slice ya yn yc)) nL 34 (.int .i64 kd) (.int .u64 (fa : Int))) := (HL.out.keep hR).by (set2_by wy nG _ _) (by have := HNE.out; omega)
          clear DG q0 q1 q2 q3 o51 HI HX HL KS KL c0 c1 hR
          go_wp2
          go_roundw
          case rel => exact ⟨k + 1, S2, at2, ya, yn, yc, C2, rfl, rfl, HN.out, HLL.out⟩
          case measure => simp only [strN]; omega
        · have hi' : i = 11 ∨ i = 13 := by
            rw [show Region.ready .any _ _ = [11, 13] by kernel_rfl] at hi
            simpa using hi
          obtain rfl : i = 13 := by omega
          clear hi hi' hmi
          obtain ⟨ya, yn, yc, e51, o51⟩ : StA (.slice am nm pm) C2 (f 51) wy := hf 51 (by kernel_rfl) (by simp)
          have e53 : f 53 = .pointer (some ⟨nG, 0, none⟩) := hf 53 (by kernel_rfl) (by simp)
          obtain ⟨za, zn, zc, e41, _⟩ : StT (.slice am nm pm) F1 F2 C2 (f 41) wy := hf 41 (by kernel_rfl) (by simp)
          simp only [putSl, E2.putSl, List.take_succ_cons, List.take_zero, Act.put, List.setIfInBounds_toArray, List.set_cons_zero, List.set_cons_succ, e51, e53, e41] at hA
          subst hA
          have DG : B4 wy nG 29 (.slice am nm pm) (.slice xa xn xc) (.int .u64 (bs : Int)) (.slice ap np pp) := HI.out.bG.keep hR
          have q0 := DG.cells.1
          have q1 := DG.cells.2.1
          have q2 := DG.frees.1
          have q3 := DG.frees.2.1
          refine (show AllReady _ _ _ _ 1 _ _ _ [13] from AllReady.cons rfl (fun K hK => ?_) AllReady.nil) 13 (by simp)
          refine if_yes (by kernel_rfl) ?_
          simp [go_sem, q0, q1, q2, q3]
          refine hK _ _ ?_
          clear hK K
          refine wpAny_ready (rs := [11]) (by kernel_rfl) (by simp) ?_
          refine AllReady.cons rfl (fun K hK => ?_) AllReady.nil
          refine if_yes (by kernel_rfl) ?_
          simp [go_sem]
          refine hK _ _ ?_
          clear hK K
          refine wpAny_done (by kernel_rfl) ?_ _
          have HN : Hid (RpI w am ac ap nm pm nc pc np pp ms cs ps bs a s nG nR nF nL (k + 1) S2 at2 ya yn yc C2 ((wy.setCell ⟨nG, 0, none⟩ (.slice am nm pm)).setCell ⟨nG, 1, none⟩ (.slice ya yn yc))) := by
            have I := HI.out
            have hB := HNE.out
            have h1 := set2_by wy nG (.slice am nm pm) (.slice ya yn yc)
            refine ⟨HX.out.1, HX.out.2.1, HX.out.2.2.1, HX.out.2.2.2, ?_, ?_, (I.bR.keep hR).by h1 (by omega), (I.bF.keep hR).by h1 (by omega), ((below_tr I.bl hR).setCell (by simp; omega) _).setCell (by simp; omega) _⟩
            · refine sl_set (sl_set o51 DG _) (t := 29) (z := (bs : Int)) (a0 := am) (b0 := nm) (d0 := pm) (a1 := xa) (b1 := xn) (d1 := xc) (a3 := ap) (b3 := np) (d3 := pp) ?_ _
              exact heap_setCell_same wy nG 0 _ 29 (.slice am nm pm) DG
            · exact heap_setCell_same _ nG 1 _ 29 (.slice ya yn yc) (heap_setCell_same wy nG 0 _ 29 (.slice am nm pm) DG)
          have HLL : Hid (B2 ((wy.setCell ⟨nG, 0, none⟩ (.slice am nm pm)).setCell ⟨nG, 1, none⟩ (.slice ya yn yc)) nL 34 (.int .i64 kd) (.int .u64 (fa : Int))) := (HL.out.keep hR).by (set2_by wy nG _ _) (by have := HNE.out; omega)
          clear DG q0 q1 q2 q3 o51 HI HX HL KS KL c0 c1 hR
          go_wp2
          go_roundw
          case rel => exact ⟨k + 1, S2, at2, ya, yn, yc, C2, rfl, rfl, HN.out, HLL.out⟩
          case measure => simp only [strN]; omega
  · have hb0 : (kd != 0) = true := by simp [h0]
    have HCF : Hid (CH = cs) := HCH0.out h0
    clear h0 HCH0 HCH1 HINV HNF
    obtain ⟨Wc, Wd, hWc, hWd, bFc, BR2, BF2, bW2⟩ := res42 (w := w) BR BF (by have := HNE.out; omega) bW (by have := HNE.out; omega) (by have := HNE.out; omega) (.slice am nm pm) (.slice ac nc pc) (.int .u64 (bs : Int)) (.slice ap np pp) (.int .i64 kd) (.int .u64 (fa : Int))
    obtain ⟨z0, z1, z2, z3⟩ := BR.cells
    obtain ⟨f0, f1, f2, f3⟩ := BR.frees
    have g0 := bFc.c0
    have g1 := bFc.c1
    have g2 := bFc.f0
    have g3 := bFc.f1
    have BLc : B2 Wc nL 34 (.int .i64 kd) (.int .u64 (fa : Int)) := by rw [← hWc]; exact GL.by (set4_by W6 nR _ _ _ _) (by have := HNE.out; omega)
    have j0 := BLc.c0
    have j1 := BLc.c1
    have HRES : Hid (SlG Wd (.slice am nm pm) (.slice ac nc pc) (.slice ap np pp) ms CH ps) := by
      rw [HCF.out]
      exact HSL.out Wd bW2
    clear BR BF bFc HSL bW BG
    go_wp2
    go_region
    all_goals (
      go_wp2
      have u0 := BR2.cells
      have v0 := BF2.c0
      have v1 := BF2.c1
      obtain ⟨u0, u1, u2, u3⟩ := u0
      refine bodyPost_ret (v := .tuple #[.agg #[.slice am nm pm, .slice ac nc pc, .int .u64 (bs : Int), .slice ap np pp], .agg #[.int .i64 kd, .int .u64 (fa : Int)]]) ?_ rfl ⟨_, _, _, rfl, HRES.out.keep (Below.refl _ _).drew, bW2.drew⟩
      rw [results_cells rfl]; simp [go_sem, u0, u1, u2, u3, v0, v1])
end Go.Proofs.Ytdhjmghfiodifaa
