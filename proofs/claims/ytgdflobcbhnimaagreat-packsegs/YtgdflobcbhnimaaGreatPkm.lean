/- What is proved here: the linking table. -/
import Derived.Test.YtgdflobcbhnimaaGreatPkj
import Derived.Test.YtgdflobcbhnimaaGreatPkl
import Derived.Test.YtgdflobcbhnimaaGreatEWn
import Derived.Test.YtgdflobcbhnimaaGreatEach
import Derived.Deep.CutRange
namespace Go.Proofs.YtgdflobcbhnimaaGreat
open Go.RowKit 
set_option linter.unusedVariables false
set_option linter.unusedSimpArgs false
set_option maxRecDepth 100000
/-- A builder is given more numbers. -/
theorem wrW (B : Nat) (PW X : List Nat) (w : World) (h : IsB B B (wds PW) w) (hl : PW.length ≤ 1000) (hX : X.length ≤ 100) (hB : B ≤ w.heap.size) :
    Calls Tryz.prog 28 #[.pointer (some ⟨B, 0, none⟩), .string ⟨(wds X).toArray⟩] w fun e w' => e = .returned (.tuple #[.int .i64 ((4 * X.length : Nat) : Int), .nilIface]) ∧ (IsB B B (wds (PW ++ X)) w' ∧ Below B w w') := by
  have hz : (⟨(wds X).toArray⟩ : ByteArray).size = 4 * X.length := by show (wds X).toArray.size = _; simp [wds_len]
  have h1 := wds_len PW
  have := write41 B B (wds PW) ⟨(wds X).toArray⟩ w h (by rw [hz, h1]; omega) hB
  rw [E.bal, hz, ← wds_app] at this
  exact this
theorem needW_next (ps : List Nat) (k : Nat) (h : k < ps.length) : needW ps (k + 1) = needW ps k ++ [1, ps[k]] := by
  unfold needW
  rw [List.take_succ_eq_append_getElem h, List.flatMap_append]
  simp
theorem needW_len (ps : List Nat) (k : Nat) (h : k ≤ ps.length) : (needW ps k).length = 2 * k := by
  unfold needW
  have : (ps.take k).length = k := by rw [List.length_take]; omega
  generalize ps.take k = l at this
  clear h
  subst this
  induction l with
  | nil => rfl
  | cons a r ih => rw [List.flatMap_cons, List.length_append, ih]; simp; omega
set_option maxHeartbeats 16000000 in
theorem linking64 (y : Ly) (q : Lv) (b : Nat) (ps : List Nat) (v : Value) (w : World) (h : BY y q b w) (ok : y.Ok) (hn : SlS w q.vn y.lib.needed) (hy : SlY w q.vs y.lib.syms) (hlo : SlN w q.vl y.lib.locals) (hp : SlN w v ps) (hpl : ps.length = y.lib.needed.length + 1) (hpb : ∀ p ∈ ps, p < 4294967296) :
    Calls Tryz.prog 64 #[.pointer (some ⟨b, 0, none⟩), v] w fun e w' => e = .returned (.string ⟨(wds (y.linkW ps)).toArray⟩) ∧ Below w.heap.size w w' := by
  have HY : Hid (BY y q b w ∧ y.Ok) := ⟨h, ok⟩
  have d6 : w.cell? ⟨b, 6, none⟩ = some q.vn := h.lib 6 rfl
  have d7 : w.cell? ⟨b, 7, none⟩ = some (.string ⟨y.lib.soname.toArray⟩) := h.lib 7 rfl
  have d9 : w.cell? ⟨b, 9, none⟩ = some q.vs := h.lib 9 rfl
  have d11 : w.cell? ⟨b, 11, none⟩ = some q.vl := h.lib 11 rfl
  have d12 : w.cell? ⟨b, 12, none⟩ = some (.int .i64 y.lib.global) := h.lib 12 rfl
  have d13 : w.cell? ⟨b, 13, none⟩ = some (.int .u32 (y.lib.init : Int)) := h.lib 13 rfl
  have d29 := h.sizes 5 (by decide)
  have d30 := h.sizes 6 (by decide)
  obtain ⟨A3, hA3⟩ : ∃ z, z = y.ad 3 := ⟨_, rfl⟩
  have K3 : Hid (∀ w', Below w.heap.size w w' → Calls Tryz.prog 25 #[.pointer (some ⟨b, 0, none⟩), .int .i64 3] w' fun e w'' => e = .returned (.int .u32 (A3 : Int)) ∧ Below w'.heap.size w' w'') := fun w' hw => by rw [hA3]; exact address25 y q b 3 w' (HY.out.1.keep hw) ok (by decide)
  obtain ⟨A4, hA4⟩ : ∃ z, z = y.ad 4 := ⟨_, rfl⟩
  have K4 : Hid (∀ w', Below w.heap.size w w' → Calls Tryz.prog 25 #[.pointer (some ⟨b, 0, none⟩), .int .i64 4] w' fun e w'' => e = .returned (.int .u32 (A4 : Int)) ∧ Below w'.heap.size w' w'') := fun w' hw => by rw [hA4]; exact address25 y q b 4 w' (HY.out.1.keep hw) ok (by decide)
  obtain ⟨A5, hA5⟩ : ∃ z, z = y.ad 5 := ⟨_, rfl⟩
  have K5 : Hid (∀ w', Below w.heap.size w w' → Calls Tryz.prog 25 #[.pointer (some ⟨b, 0, none⟩), .int .i64 5] w' fun e w'' => e = .returned (.int .u32 (A5 : Int)) ∧ Below w'.heap.size w' w'') := fun w' hw => by rw [hA5]; exact address25 y q b 5 w' (HY.out.1.keep hw) ok (by decide)
  obtain ⟨A6, hA6⟩ : ∃ z, z = y.ad 6 := ⟨_, rfl⟩
  have K6 : Hid (∀ w', Below w.heap.size w w' → Calls Tryz.prog 25 #[.pointer (some ⟨b, 0, none⟩), .int .i64 6] w' fun e w'' => e = .returned (.int .u32 (A6 : Int)) ∧ Below w'.heap.size w' w'') := fun w' hw => by rw [hA6]; exact address25 y q b 6 w' (HY.out.1.keep hw) ok (by decide)
  obtain ⟨A7, hA7⟩ : ∃ z, z = y.ad 7 := ⟨_, rfl⟩
  have K7 : Hid (∀ w', Below w.heap.size w w' → Calls Tryz.prog 25 #[.pointer (some ⟨b, 0, none⟩), .int .i64 7] w' fun e w'' => e = .returned (.int .u32 (A7 : Int)) ∧ Below w'.heap.size w' w'') := fun w' hw => by rw [hA7]; exact address25 y q b 7 w' (HY.out.1.keep hw) ok (by decide)
  obtain ⟨A8, hA8⟩ : ∃ z, z = y.ad 8 := ⟨_, rfl⟩
  have K8 : Hid (∀ w', Below w.heap.size w w' → Calls Tryz.prog 25 #[.pointer (some ⟨b, 0, none⟩), .int .i64 8] w' fun e w'' => e = .returned (.int .u32 (A8 : Int)) ∧ Below w'.heap.size w' w'') := fun w' hw => by rw [hA8]; exact address25 y q b 8 w' (HY.out.1.keep hw) ok (by decide)
  obtain ⟨S5, hS5⟩ : ∃ z, z = y.size 5 := ⟨_, rfl⟩
  obtain ⟨S6, hS6⟩ : ∃ z, z = y.size 6 := ⟨_, rfl⟩
  obtain ⟨IN, hIN⟩ : ∃ z, z = y.lib.init := ⟨_, rfl⟩
  obtain ⟨NS, hNS⟩ : ∃ z, z = y.lib.syms.length := ⟨_, rfl⟩
  obtain ⟨NN, hNN⟩ : ∃ z, z = y.lib.needed.length := ⟨_, rfl⟩
  obtain ⟨NL, hNL⟩ : ∃ z, z = y.lib.locals.length := ⟨_, rfl⟩
  obtain ⟨GL, hGL⟩ : ∃ z, z = y.lib.global.toNat := ⟨_, rfl⟩
  have hGi : y.lib.global = (GL : Int) := by have := ok.fit.g0; omega
  have hGb : GL ≤ NS := by have := ok.fit.g1; omega
  obtain ⟨SO, hSO⟩ : ∃ z, z = y.lib.soname := ⟨_, rfl⟩
  obtain ⟨IX, hIX⟩ : ∃ z, z = A7 + IN := ⟨_, rfl⟩
  obtain ⟨IY, hIY⟩ : ∃ z, z = IX - 1 := ⟨_, rfl⟩
  obtain ⟨CN, hCN⟩ : ∃ z, z = NS + 1 := ⟨_, rfl⟩
  obtain ⟨OW, hOW⟩ : ∃ z, z = 2 + NL := ⟨_, rfl⟩
  obtain ⟨FI, hFI⟩ : ∃ z, z = CN - GL := ⟨_, rfl⟩
  have HLW : Hid (y.linkW ps = needW ps NN ++ ((if SO = [] then [] else [14, ps.getD NN 0]) ++ ([4, A3, 5, A5, 6, A4, 17, A6] ++ ([10, S5, 18, S6, 11, 16, 19, 8] ++ ((if IN = 0 then [] else [12, IY]) ++ ([3, A8, 1879048202, OW, 1879048209, CN, 1879048211, FI] ++ [0, 0])))))) := by
    show _ = _
    unfold Ly.linkW Ly.soW Ly.adW Ly.lenW Ly.iniW Ly.gotW
    rw [hA3, hA4, hA5, hA6, hA8, hS5, hS6, hFI, hCN, hOW, hIY, hIX, hA7, hIN, hSO, hNN, hNL, hNS, hGL]
  have HBD : Hid (A3 ≤ 1073811456 ∧ A4 ≤ 1073811456 ∧ A5 ≤ 1073811456 ∧ A6 ≤ 1073811456 ∧ A7 ≤ 1073811456 ∧ A8 ≤ 1073811456 ∧ S5 ≤ 65536 ∧ S6 ≤ 65536 ∧ IN ≤ 4096 ∧ NS ≤ 60 ∧ NN ≤ 8 ∧ NL ≤ 30 ∧ GL ≤ NS ∧ ps.length = NN + 1 ∧ ∀ p ∈ ps, p < 4294967296) := ⟨by rw [hA3]; exact ok.ad_le 3, by rw [hA4]; exact ok.ad_le 4, by rw [hA5]; exact ok.ad_le 5, by rw [hA6]; exact ok.ad_le 6, by rw [hA7]; exact ok.ad_le 7, by rw [hA8]; exact ok.ad_le 8, by rw [hS5]; exact ok.s 5, by rw [hS6]; exact ok.s 6, by rw [hIN]; exact ok.fit.ini, by rw [hNS]; exact ok.fit.y0, by rw [hNN]; exact ok.fit.n0, by rw [hNL]; exact ok.fit.lo, hGb, by rw [hNN]; exact hpl, hpb⟩
  have HIX : Hid (IX = A7 + IN ∧ IY = IX - 1 ∧ CN = NS + 1 ∧ OW = 2 + NL ∧ FI = CN - GL) := ⟨hIX, hIY, hCN, hOW, hFI⟩
  obtain ⟨na, nc, hvn, _⟩ := hn
  obtain ⟨ya, yc, hvy, _⟩ := hy
  obtain ⟨la, lc, hvl, _⟩ := hlo
  obtain ⟨pa, pc, rfl, p1, p2, p3, p4⟩ := hp
  have HP : Hid (∀ i (h : i < ps.length), ∃ b o, pa = some ⟨b, o, none⟩ ∧ w.cell? ⟨b, o + i, none⟩ = some (.int .u32 (ps[i] : Int))) := p4
  rw [hvn, ← hNN] at d6
  rw [hvy, ← hNS] at d9
  rw [hvl, ← hNL] at d11
  rw [hGi] at d12
  rw [← hIN] at d13
  rw [← hS5] at d29
  rw [← hS6] at d30
  rw [← hSO] at d7
  obtain ⟨PL, hPL⟩ : ∃ z, z = ps.length := ⟨_, rfl⟩
  have HPL : Hid (PL = ps.length ∧ PL = NN + 1 ∧ NN ≤ 8) := ⟨hPL, by rw [hPL]; exact HBD.out.2.2.2.2.2.2.2.2.2.2.2.2.2.1, HBD.out.2.2.2.2.2.2.2.2.2.2.1⟩
  rw [← hPL]
  obtain ⟨SOB, hSOB⟩ : ∃ B : ByteArray, B = ⟨SO.toArray⟩ := ⟨_, rfl⟩
  rw [← hSOB] at d7
  have HSB : Hid (SOB = ⟨SO.toArray⟩ ∧ SOB.toList = SO) := ⟨hSOB, by rw [hSOB]; exact E.bal SO⟩
  have HD : Hid (w.cell? ⟨b, 6, none⟩ = some (.slice na NN nc) ∧ w.cell? ⟨b, 7, none⟩ = some (.string SOB) ∧ w.cell? ⟨b, 9, none⟩ = some (.slice ya NS yc) ∧ w.cell? ⟨b, 11, none⟩ = some (.slice la NL lc) ∧ w.cell? ⟨b, 12, none⟩ = some (.int .i64 (GL : Int)) ∧ w.cell? ⟨b, 13, none⟩ = some (.int .u32 (IN : Int)) ∧ w.cell? ⟨b, 29, none⟩ = some (.int .u32 (S5 : Int)) ∧ w.cell? ⟨b, 30, none⟩ = some (.int .u32 (S6 : Int))) := ⟨d6, d7, d9, d11, d12, d13, d29, d30⟩
  obtain ⟨W0, hW0⟩ : ∃ W0, w.alloc (.cells #[.pointer none, .slice none 0 0] 63) = W0 := ⟨_, rfl⟩
  have HI : Hid (IsB w.heap.size w.heap.size (wds (needW ps 0)) W0 ∧ Below w.heap.size w W0) := by
    refine ⟨?_, ?_⟩
    · rw [← hW0]
      exact Or.inl ⟨Nat.le_refl _, _, World.alloc_heap_new w _, ⟨rfl, Or.inl ⟨rfl, rfl⟩⟩, by simp [Value.ownBlock]⟩
    · rw [← hW0]; exact (Below.refl _ _).alloc (Nat.le_refl _) _
  replace d6 := keep_cell HI.out.2 d6
  clear h ok hpl hpb hA3 hA4 hA5 hA6 hA7 hA8 hS5 hS6 hIN hNS hNN hNL hGL hGi hGb hSO hIX hIY hCN hOW hFI hvn hvy hvl p1 p2 p3 p4 hPL hSOB d7 d9 d11 d12 d13 d29 d30
  go_enter Tryz.func64, Tryz.ntmps64
  go_wp2
  clear hW0 d6
  go_loopw [14] (fun x wr => ∃ k : Nat, x = .int .i64 (k : Int) ∧ k ≤ NN ∧ IsB w.heap.size w.heap.size (wds (needW ps k)) wr ∧ Below w.heap.size w wr) (fun x _ => NN - (intOf x).toNat)
  case atStart => exact ⟨0, rfl, Nat.zero_le _, HI.out.1, HI.out.2⟩
  case round =>
    obtain ⟨k, rfl, hk, hI, hbr⟩ := hrel
    have hNNb := HPL.out.2.2
    by_cases hlt : k < NN
    · have hkl : k < ps.length := by have := HPL.out; omega
      obtain ⟨pb, o, hpa, c0⟩ := HP.out k hkl
      replace c0 := keep_cell hbr c0
      have hnx := needW_next ps k hkl
      have hnl := needW_len ps k (by omega)
      obtain ⟨X, hX⟩ : ∃ X, X = ps[k] := ⟨_, rfl⟩
      have hXb : X < 4294967296 := HBD.out.2.2.2.2.2.2.2.2.2.2.2.2.2.2 X (by rw [hX]; exact List.getElem_mem hkl)
      rw [← hX] at c0 hnx
      have hkP : (k : Int) < (PL : Int) := by have := HPL.out; omega
      have hki : (k : Int) < (NN : Int) := by omega
      have HS : Hid (IsB w.heap.size w.heap.size (wds (needW ps k)) wr ∧ Below w.heap.size w wr ∧ needW ps (k + 1) = needW ps k ++ [1, X] ∧ (needW ps k).length ≤ 16 ∧ k < NN ∧ X < 4294967296) := ⟨hI, hbr, hnx, by omega, hlt, hXb⟩
      obtain ⟨W2, hW2⟩ : ∃ z, wr.alloc (.cells #[.int .u32 1, .int .u32 (X : Int)] 22) = z := ⟨_, rfl⟩
      have hal : Below wr.heap.size wr W2 := by rw [← hW2]; exact (Below.refl _ _).alloc (Nat.le_refl _) _
      have H2 : Hid (IsB w.heap.size w.heap.size (wds (needW ps k)) W2 ∧ Below w.heap.size w W2) := ⟨isB_keep hI hal, below_tr hbr hal⟩
      have K92 := words92 [1, X] (by simp) (.slice (some ⟨wr.heap.size, 0, none⟩) 2 2) W2 (by intro x hx; simp at hx; omega) (by rw [← hW2]; exact SlN.new wr [1, X] #[.int .u32 1, .int .u32 (X : Int)] rfl 2 rfl (by simp))
      subst hpa
      clear hX hnx hnl hXb hI hbr hkl hk hlt hal
      go_wp2_with fail
      refine K92.mono ?_
      rintro e w3 ⟨rfl, hb3⟩
      have KW := wrW w.heap.size (needW ps k) [1, X] w3 (isB_keep H2.out.1 hb3) (by have := HS.out.2.2.2.1; omega) (by simp) (Nat.le_trans H2.out.2.size hb3.size)
      rw [← HS.out.2.2.1] at KW
      have H3 : Hid (Below w.heap.size w w3) := below_tr H2.out.2 hb3
      clear K92 hW2 hb3 c0
      go_wp2_with fail
      refine KW.mono ?_
      rintro e w4 ⟨rfl, hI4, hb4⟩
      have H4 : Hid (IsB w.heap.size w.heap.size (wds (needW ps (k + 1))) w4 ∧ Below w.heap.size w w4) := ⟨hI4, H3.out.trans (hb4.mono (Nat.le_refl _))⟩
      have hkN := HS.out.2.2.2.2.1
      clear KW hI4 hb4
      go_wp2
      go_roundw
      case rel => exact ⟨k + 1, by go_num, hkN, H4.out.1, H4.out.2⟩
      case measure => simp [intOf]; omega
    · have hkN : k = NN := by omega
      have hki : ¬ (k : Int) < (NN : Int) := by omega
      subst hkN
      have HS0 : Hid (IsB w.heap.size w.heap.size (wds (needW ps k)) wr ∧ Below w.heap.size w wr ∧ (needW ps k).length ≤ 16) := ⟨hI, hbr, by have h1 := needW_len ps k (by have := HPL.out; omega); have := HPL.out; omega⟩
      have e7 := keep_cell hbr HD.out.2.1
      clear hI hbr
      by_cases hso : SO = []
      · subst hso
        rw [HSB.out.1] at e7
        go_upto_region 9 with fail
        clear e7
        go_wp2_with fail
        refine (K3.out wr HS0.out.2.1).mono ?_
        rintro e wa1 ⟨rfl, hb6⟩
        have HS2 : Hid (IsB w.heap.size w.heap.size (wds (needW ps k)) wa1 ∧ Below w.heap.size w wa1 ∧ (needW ps k).length ≤ 16) := ⟨isB_keep HS0.out.1 hb6, below_tr HS0.out.2.1 hb6, HS0.out.2.2⟩
        clear hb6
        go_wp2_with fail
        refine (K5.out wa1 HS2.out.2.1).mono ?_
        rintro e wa3 ⟨rfl, hb6⟩
        have HS4 : Hid (IsB w.heap.size w.heap.size (wds (needW ps k)) wa3 ∧ Below w.heap.size w wa3 ∧ (needW ps k).length ≤ 16) := ⟨isB_keep HS2.out.1 hb6, below_tr HS2.out.2.1 hb6, HS2.out.2.2⟩
        clear hb6
        go_wp2_with fail
        refine (K4.out wa3 HS4.out.2.1).mono ?_
        rintro e wa5 ⟨rfl, hb6⟩
        have HS6 : Hid (IsB w.heap.size w.heap.size (wds (needW ps k)) wa5 ∧ Below w.heap.size w wa5 ∧ (needW ps k).length ≤ 16) := ⟨isB_keep HS4.out.1 hb6, below_tr HS4.out.2.1 hb6, HS4.out.2.2⟩
        clear hb6
        go_wp2_with fail
        refine (K6.out wa5 HS6.out.2.1).mono ?_
        rintro e wa7 ⟨rfl, hb6⟩
        have HS8 : Hid (IsB w.heap.size w.heap.size (wds (needW ps k)) wa7 ∧ Below w.heap.size w wa7 ∧ (needW ps k).length ≤ 16) := ⟨isB_keep HS6.out.1 hb6, below_tr HS6.out.2.1 hb6, HS6.out.2.2⟩
        clear hb6
        obtain ⟨wb9, hW2⟩ : ∃ z, wa7.alloc (.cells #[.int .u32 4, .int .u32 (A3 : Int), .int .u32 5, .int .u32 (A5 : Int), .int .u32 6, .int .u32 (A4 : Int), .int .u32 17, .int .u32 (A6 : Int)] 22) = z := ⟨_, rfl⟩
        have hal : Below wa7.heap.size wa7 wb9 := by rw [← hW2]; exact (Below.refl _ _).alloc (Nat.le_refl _) _
        have HS10 : Hid (IsB w.heap.size w.heap.size (wds (needW ps k)) wb9 ∧ Below w.heap.size w wb9) := ⟨isB_keep HS8.out.1 hal, below_tr HS8.out.2.1 hal⟩
        have K92 := words92 [4, A3, 5, A5, 6, A4, 17, A6] (by simp) (.slice (some ⟨wa7.heap.size, 0, none⟩) 8 8) wb9 (by intro x hx; have hb := HBD.out; have hc := HIX.out; simp at hx; omega) (by rw [← hW2]; exact SlN.new wa7 [4, A3, 5, A5, 6, A4, 17, A6] #[.int .u32 4, .int .u32 (A3 : Int), .int .u32 5, .int .u32 (A5 : Int), .int .u32 6, .int .u32 (A4 : Int), .int .u32 17, .int .u32 (A6 : Int)] rfl 8 rfl (by simp))
        clear hal
        go_wp2_with fail
        refine K92.mono ?_
        rintro e wc12 ⟨rfl, hb3⟩
        have H3 : Hid (Below w.heap.size w wc12) := below_tr HS10.out.2 hb3
        have KW := wrW w.heap.size (needW ps k) [4, A3, 5, A5, 6, A4, 17, A6] wc12 (isB_keep HS10.out.1 hb3) (by have := HS8.out.2.2; omega) (by simp) (Nat.le_trans HS10.out.2.size hb3.size)
        clear K92 hW2 hb3
        go_wp2_with fail
        refine KW.mono ?_
        rintro e wd13 ⟨rfl, hI4, hb4⟩
        have HS11 : Hid (IsB w.heap.size w.heap.size (wds ((needW ps k) ++ [4, A3, 5, A5, 6, A4, 17, A6])) wd13 ∧ Below w.heap.size w wd13 ∧ ((needW ps k) ++ [4, A3, 5, A5, 6, A4, 17, A6]).length ≤ 24) := ⟨hI4, H3.out.trans (hb4.mono (Nat.le_refl _)), by have h1 := HS8.out.2.2; simp only [List.length_append, List.length_cons, List.length_nil] at h1 ⊢; omega⟩
        clear KW hI4 hb4 H3
        have g29 := keep_cell HS11.out.2.1 HD.out.2.2.2.2.2.2.1
        have g30 := keep_cell HS11.out.2.1 HD.out.2.2.2.2.2.2.2
        go_upto_region 10 with fail
        have K92 : Hid (∀ v w', SlN w' v [10, S5, 18, S6, 11, 16, 19, 8] → Calls Tryz.prog 92 #[v] w' fun e w'' => e = .returned (.string ⟨(wds [10, S5, 18, S6, 11, 16, 19, 8]).toArray⟩) ∧ Below w'.heap.size w' w'') := fun v w' hv => words92 [10, S5, 18, S6, 11, 16, 19, 8] (by simp) v w' (by intro x hx; have hb := HBD.out; have hc := HIX.out; simp at hx; omega) hv
        refine wp_region_cut (R := Ext) [⟨54, fun v _ => v = .pointer (some ⟨b, 0, none⟩), fun _ _ _ _ h => h⟩, ⟨55, fun v _ => v = .pointer (some ⟨b, 0, none⟩), fun _ _ _ _ h => h⟩, ⟨56, fun v _ => v = .pointer (some ⟨b, 24, none⟩), fun _ _ _ _ h => h⟩, ⟨57, fun v _ => v = .pointer (some ⟨b, 29, none⟩), fun _ _ _ _ h => h⟩, ⟨58, fun v _ => v = .int .u32 (S5 : Int), fun _ _ _ _ h => h⟩, ⟨59, fun v _ => v = .pointer (some ⟨b, 0, none⟩), fun _ _ _ _ h => h⟩, ⟨60, fun v _ => v = .pointer (some ⟨b, 0, none⟩), fun _ _ _ _ h => h⟩, ⟨61, fun v _ => v = .pointer (some ⟨b, 24, none⟩), fun _ _ _ _ h => h⟩, ⟨62, fun v _ => v = .pointer (some ⟨b, 30, none⟩), fun _ _ _ _ h => h⟩, ⟨63, fun v _ => v = .int .u32 (S6 : Int), fun _ _ _ _ h => h⟩, ⟨64, fun v W => SlN W v [10, S5, 18, S6, 11, 16, 19, 8], fun v A C hb h => h.keep hb⟩, ⟨65, fun v _ => v = .string ⟨(wds [10, S5, 18, S6, 11, 16, 19, 8]).toArray⟩, fun _ _ _ _ h => h⟩] _ 12 (by kernel_rfl) rfl (by kernel_rfl) (by decide) (by kernel_rfl) (Below.drew (Below.refl _ _)) (fun _ _ _ h1 h2 => below_tr h1 h2) (fun QQ => ⟨?_, ?_, ?_, ?_, ?_, ?_, ?_, ?_, ?_, ?_, ?_, ?_, trivial⟩) (fun f wy hR hf A hA => ?_)
        · intro A wx hR hout hdep K hK
          have h0 : A.tmps[0]?.getD undef = .pointer (some ⟨b, 0, none⟩) := hout 0 (by kernel_rfl)
          refine if_yes (by kernel_rfl) ?_
          simp [go_sem, h0]
          exact hK.out _ _ (Below.refl _ _) rfl
        · intro A wx hR hout hdep K hK
          have h54 : A.tmps[54]?.getD undef = .pointer (some ⟨b, 0, none⟩) := hdep 54 (by kernel_rfl)
          refine if_yes (by kernel_rfl) ?_
          simp [go_sem, h54]
          exact hK.out _ _ (Below.refl _ _) rfl
        · intro A wx hR hout hdep K hK
          have h55 : A.tmps[55]?.getD undef = .pointer (some ⟨b, 0, none⟩) := hdep 55 (by kernel_rfl)
          refine if_yes (by kernel_rfl) ?_
          simp [go_sem, h55]
          exact hK.out _ _ (Below.refl _ _) rfl
        · intro A wx hR hout hdep K hK
          have h56 : A.tmps[56]?.getD undef = .pointer (some ⟨b, 24, none⟩) := hdep 56 (by kernel_rfl)
          refine if_yes (by kernel_rfl) ?_
          simp [go_sem, h56]
          exact hK.out _ _ (Below.refl _ _) rfl
        · intro A wx hR hout hdep K hK
          have h57 : A.tmps[57]?.getD undef = .pointer (some ⟨b, 29, none⟩) := hdep 57 (by kernel_rfl)
          refine if_yes (by kernel_rfl) ?_
          have g29 := keep_cell hR g29
          have g30 := keep_cell hR g30
          simp [go_sem, h57, g29, g30]
          exact hK.out _ _ (Below.refl _ _) rfl
        · intro A wx hR hout hdep K hK
          have h0 : A.tmps[0]?.getD undef = .pointer (some ⟨b, 0, none⟩) := hout 0 (by kernel_rfl)
          refine if_yes (by kernel_rfl) ?_
          simp [go_sem, h0]
          exact hK.out _ _ (Below.refl _ _) rfl
        · intro A wx hR hout hdep K hK
          have h59 : A.tmps[59]?.getD undef = .pointer (some ⟨b, 0, none⟩) := hdep 59 (by kernel_rfl)
          refine if_yes (by kernel_rfl) ?_
          simp [go_sem, h59]
          exact hK.out _ _ (Below.refl _ _) rfl
        · intro A wx hR hout hdep K hK
          have h60 : A.tmps[60]?.getD undef = .pointer (some ⟨b, 0, none⟩) := hdep 60 (by kernel_rfl)
          refine if_yes (by kernel_rfl) ?_
          simp [go_sem, h60]
          exact hK.out _ _ (Below.refl _ _) rfl
        · intro A wx hR hout hdep K hK
          have h61 : A.tmps[61]?.getD undef = .pointer (some ⟨b, 24, none⟩) := hdep 61 (by kernel_rfl)
          refine if_yes (by kernel_rfl) ?_
          simp [go_sem, h61]
          exact hK.out _ _ (Below.refl _ _) rfl
        · intro A wx hR hout hdep K hK
          have h62 : A.tmps[62]?.getD undef = .pointer (some ⟨b, 30, none⟩) := hdep 62 (by kernel_rfl)
          refine if_yes (by kernel_rfl) ?_
          have g29 := keep_cell hR g29
          have g30 := keep_cell hR g30
          simp [go_sem, h62, g29, g30]
          exact hK.out _ _ (Below.refl _ _) rfl
        · intro A wx hR hout hdep K hK
          have h58 : A.tmps[58]?.getD undef = .int .u32 (S5 : Int) := hdep 58 (by kernel_rfl)
          have h63 : A.tmps[63]?.getD undef = .int .u32 (S6 : Int) := hdep 63 (by kernel_rfl)
          refine if_yes (by kernel_rfl) ?_
          simp [go_sem, h58, h63]
          exact hK.out _ _ ((Below.refl _ _).alloc (Nat.le_refl _) _) (SlN.new _ [10, S5, 18, S6, 11, 16, 19, 8] _ rfl 8 rfl (by simp))
        · intro A wx hR hout hdep K hK
          have h64 := hdep 64 (by kernel_rfl)
          refine if_yes (by kernel_rfl) ?_
          obtain ⟨v28, hv28⟩ : ∃ v, v = A.tmps[64]?.getD undef := ⟨_, rfl⟩
          rw [← hv28] at h64
          have hv28 := hv28.symm
          simp [go_sem, hv28]
          refine (K92.out v28 _ h64).mono ?_
          rintro e w6 ⟨rfl, hb6⟩
          exact hK.out _ _ hb6 rfl
        have h54 : f 54 = .pointer (some ⟨b, 0, none⟩) := hf 54 (by kernel_rfl)
        have h55 : f 55 = .pointer (some ⟨b, 0, none⟩) := hf 55 (by kernel_rfl)
        have h56 : f 56 = .pointer (some ⟨b, 24, none⟩) := hf 56 (by kernel_rfl)
        have h57 : f 57 = .pointer (some ⟨b, 29, none⟩) := hf 57 (by kernel_rfl)
        have h58 : f 58 = .int .u32 (S5 : Int) := hf 58 (by kernel_rfl)
        have h59 : f 59 = .pointer (some ⟨b, 0, none⟩) := hf 59 (by kernel_rfl)
        have h60 : f 60 = .pointer (some ⟨b, 0, none⟩) := hf 60 (by kernel_rfl)
        have h61 : f 61 = .pointer (some ⟨b, 24, none⟩) := hf 61 (by kernel_rfl)
        have h62 : f 62 = .pointer (some ⟨b, 30, none⟩) := hf 62 (by kernel_rfl)
        have h63 : f 63 = .int .u32 (S6 : Int) := hf 63 (by kernel_rfl)
        have h65 : f 65 = .string ⟨(wds [10, S5, 18, S6, 11, 16, 19, 8]).toArray⟩ := hf 65 (by kernel_rfl)
        have h64 := hf 64 (by kernel_rfl)
        obtain ⟨v28, hv28⟩ : ∃ v, v = f 64 := ⟨_, rfl⟩
        rw [← hv28] at h64
        have hv28 := hv28.symm
        simp only [putSl, List.take_succ_cons, List.take_zero, Act.put, List.setIfInBounds_toArray, List.set_cons_zero, List.set_cons_succ, h54, h55, h56, h57, h58, h59, h60, h61, h62, h63, h65, hv28] at hA
        subst hA
        have H3 : Hid (Below w.heap.size w wy) := below_tr HS11.out.2.1 hR
        have H3i : Hid (IsB w.heap.size w.heap.size (wds ((needW ps k) ++ [4, A3, 5, A5, 6, A4, 17, A6])) wy) := isB_keep HS11.out.1 hR
        clear h54 h55 h56 h57 h58 h59 h60 h61 h62 h63 h65 h64 hv28 hf hR K92 g29 g30
        generalize wy = wz16 at H3 H3i ⊢
        have KW := wrW w.heap.size ((needW ps k) ++ [4, A3, 5, A5, 6, A4, 17, A6]) [10, S5, 18, S6, 11, 16, 19, 8] wz16 H3i.out (by have := HS11.out.2.2; omega) (by simp) H3.out.size
        refine wpAny_ready (rs := [12]) (by kernel_rfl) (by decide) (AllReady.cons rfl ?_ AllReady.nil)
        intro K5 hK5
        refine if_yes (by kernel_rfl) ?_
        simp [go_sem]
        refine (KW).mono ?_
        rintro e wd15 ⟨rfl, hI4, hb4⟩
        refine hK5 _ _ ?_
        refine wpAny_done (by kernel_rfl) ?_ _
        clear hK5 K5
        clear H3i
        have HS14 : Hid (IsB w.heap.size w.heap.size (wds (((needW ps k) ++ [4, A3, 5, A5, 6, A4, 17, A6]) ++ [10, S5, 18, S6, 11, 16, 19, 8])) wd15 ∧ Below w.heap.size w wd15 ∧ (((needW ps k) ++ [4, A3, 5, A5, 6, A4, 17, A6]) ++ [10, S5, 18, S6, 11, 16, 19, 8]).length ≤ 32) := ⟨hI4, H3.out.trans (hb4.mono (Nat.le_refl _)), by have h1 := HS11.out.2.2; simp only [List.length_append, List.length_cons, List.length_nil] at h1 ⊢; omega⟩
        clear KW hI4 hb4 H3
        have g13 := keep_cell HS14.out.2.1 HD.out.2.2.2.2.2.1
        by_cases hin : IN = 0
        · have g13z : (IN : Int) = 0 := by omega
          have g13d : (decide ((0 : Int) < (IN : Int))) = false := decide_eq_false (by omega)
          have g13n : ¬ (0 : Int) < (IN : Int) := by omega
          go_upto_region 13 with fail
          clear g13 g13z g13d g13n
          have e9 := keep_cell HS14.out.2.1 HD.out.2.2.1
          have ec1 : (NS : Int) + 1 = (CN : Int) := by have := HIX.out; omega
          have ec3 : IntKind.i64.wrap (CN : Int) = (CN : Int) := by rw [IntKind.wrap_i64]; have := HIX.out; have := HBD.out; omega
          have ec4 : (CN : Int) % 4294967296 = (CN : Int) := by have := HIX.out; have := HBD.out; omega
          have ec4' : IntKind.u32.wrap (CN : Int) = (CN : Int) := by rw [IntKind.wrap_u32]; exact ec4
          have ec2 := wrap64_nat CN (by have := HIX.out; have := HBD.out; omega)
          go_upto_region 14 with fail
          clear e9 ec1 ec2 ec3 ec4 ec4'
          have e11 := keep_cell HS14.out.2.1 HD.out.2.2.2.1
          have e12 := keep_cell HS14.out.2.1 HD.out.2.2.2.2.1
          have f1 : (2 : Int) + (NL : Int) = (OW : Int) := by have := HIX.out; omega
          have f3 : IntKind.i64.wrap (OW : Int) = (OW : Int) := by rw [IntKind.wrap_i64]; have := HIX.out; have := HBD.out; omega
          have f4 : (OW : Int) % 4294967296 = (OW : Int) := by have := HIX.out; have := HBD.out; omega
          have f4' : IntKind.u32.wrap (OW : Int) = (OW : Int) := by rw [IntKind.wrap_u32]; exact f4
          have f5 : (GL : Int) % 4294967296 = (GL : Int) := by have := HBD.out; omega
          have f5' : IntKind.u32.wrap (GL : Int) = (GL : Int) := by rw [IntKind.wrap_u32]; exact f5
          have f6 : (CN : Int) - (GL : Int) = (FI : Int) := by have := HIX.out; have := HBD.out; omega
          have f7 : (FI : Int) % 4294967296 = (FI : Int) := by have := HIX.out; have := HBD.out; omega
          have f7' : IntKind.u32.wrap (FI : Int) = (FI : Int) := by rw [IntKind.wrap_u32]; exact f7
          have K92 : Hid (∀ v w', SlN w' v [3, A8, 1879048202, OW, 1879048209, CN, 1879048211, FI] → Calls Tryz.prog 92 #[v] w' fun e w'' => e = .returned (.string ⟨(wds [3, A8, 1879048202, OW, 1879048209, CN, 1879048211, FI]).toArray⟩) ∧ Below w'.heap.size w' w'') := fun v w' hv => words92 [3, A8, 1879048202, OW, 1879048209, CN, 1879048211, FI] (by simp) v w' (by intro x hx; have hb := HBD.out; have hc := HIX.out; simp at hx; omega) hv
          have f2 := wrap64_nat OW (by have := HIX.out; have := HBD.out; omega)
          refine wp_region_cut (R := Ext) [⟨93, fun v _ => v = .pointer (some ⟨b, 0, none⟩), fun _ _ _ _ h => h⟩, ⟨94, fun v _ => v = .int .u32 (A8 : Int), fun _ _ _ _ h => h⟩, ⟨95, fun v _ => v = .pointer (some ⟨b, 0, none⟩), fun _ _ _ _ h => h⟩, ⟨96, fun v _ => v = .pointer (some ⟨b, 0, none⟩), fun _ _ _ _ h => h⟩, ⟨97, fun v _ => v = .pointer (some ⟨b, 0, none⟩), fun _ _ _ _ h => h⟩, ⟨98, fun v _ => v = .pointer (some ⟨b, 11, none⟩), fun _ _ _ _ h => h⟩, ⟨99, fun v _ => v = .slice la NL lc, fun _ _ _ _ h => h⟩, ⟨100, fun v _ => v = .int .i64 (NL : Int), fun _ _ _ _ h => h⟩, ⟨101, fun v _ => v = .int .i64 (OW : Int), fun _ _ _ _ h => h⟩, ⟨102, fun v _ => v = .int .u32 (OW : Int), fun _ _ _ _ h => h⟩, ⟨103, fun v _ => v = .int .u32 (CN : Int), fun _ _ _ _ h => h⟩, ⟨104, fun v _ => v = .int .u32 (CN : Int), fun _ _ _ _ h => h⟩, ⟨105, fun v _ => v = .pointer (some ⟨b, 0, none⟩), fun _ _ _ _ h => h⟩, ⟨106, fun v _ => v = .pointer (some ⟨b, 0, none⟩), fun _ _ _ _ h => h⟩, ⟨107, fun v _ => v = .pointer (some ⟨b, 0, none⟩), fun _ _ _ _ h => h⟩, ⟨108, fun v _ => v = .pointer (some ⟨b, 12, none⟩), fun _ _ _ _ h => h⟩, ⟨109, fun v _ => v = .int .i64 (GL : Int), fun _ _ _ _ h => h⟩, ⟨110, fun v _ => v = .int .u32 (GL : Int), fun _ _ _ _ h => h⟩, ⟨111, fun v _ => v = .int .u32 (FI : Int), fun _ _ _ _ h => h⟩, ⟨112, fun v W => SlN W v [3, A8, 1879048202, OW, 1879048209, CN, 1879048211, FI], fun v A C hb h => h.keep hb⟩, ⟨113, fun v _ => v = .string ⟨(wds [3, A8, 1879048202, OW, 1879048209, CN, 1879048211, FI]).toArray⟩, fun _ _ _ _ h => h⟩] _ 21 (by kernel_rfl) rfl (by kernel_rfl) (by decide) (by kernel_rfl) (Below.drew (Below.refl _ _)) (fun _ _ _ h1 h2 => below_tr h1 h2) (fun QQ => ⟨?_, ?_, ?_, ?_, ?_, ?_, ?_, ?_, ?_, ?_, ?_, ?_, ?_, ?_, ?_, ?_, ?_, ?_, ?_, ?_, ?_, trivial⟩) (fun f wy hR hf A hA => ?_)
          · intro A wx hR hout hdep K hK
            have h0 : A.tmps[0]?.getD undef = .pointer (some ⟨b, 0, none⟩) := hout 0 (by kernel_rfl)
            refine if_yes (by kernel_rfl) ?_
            simp [go_sem, h0, f1, f2, f3, f4, f4', f5, f5', f6, f7, f7']
            exact hK.out _ _ (Below.refl _ _) rfl
          · intro A wx hR hout hdep K hK
            have h93 : A.tmps[93]?.getD undef = .pointer (some ⟨b, 0, none⟩) := hdep 93 (by kernel_rfl)
            refine if_yes (by kernel_rfl) ?_
            simp [go_sem, h93, f1, f2, f3, f4, f4', f5, f5', f6, f7, f7']
            refine (K8.out _ (below_tr HS14.out.2.1 hR)).mono ?_
            rintro e w6 ⟨rfl, hb6⟩
            exact hK.out _ _ hb6 rfl
          · intro A wx hR hout hdep K hK
            have h0 : A.tmps[0]?.getD undef = .pointer (some ⟨b, 0, none⟩) := hout 0 (by kernel_rfl)
            refine if_yes (by kernel_rfl) ?_
            simp [go_sem, h0, f1, f2, f3, f4, f4', f5, f5', f6, f7, f7']
            exact hK.out _ _ (Below.refl _ _) rfl
          · intro A wx hR hout hdep K hK
            have h95 : A.tmps[95]?.getD undef = .pointer (some ⟨b, 0, none⟩) := hdep 95 (by kernel_rfl)
            refine if_yes (by kernel_rfl) ?_
            simp [go_sem, h95, f1, f2, f3, f4, f4', f5, f5', f6, f7, f7']
            exact hK.out _ _ (Below.refl _ _) rfl
          · intro A wx hR hout hdep K hK
            have h96 : A.tmps[96]?.getD undef = .pointer (some ⟨b, 0, none⟩) := hdep 96 (by kernel_rfl)
            refine if_yes (by kernel_rfl) ?_
            simp [go_sem, h96, f1, f2, f3, f4, f4', f5, f5', f6, f7, f7']
            exact hK.out _ _ (Below.refl _ _) rfl
          · intro A wx hR hout hdep K hK
            have h97 : A.tmps[97]?.getD undef = .pointer (some ⟨b, 0, none⟩) := hdep 97 (by kernel_rfl)
            refine if_yes (by kernel_rfl) ?_
            simp [go_sem, h97, f1, f2, f3, f4, f4', f5, f5', f6, f7, f7']
            exact hK.out _ _ (Below.refl _ _) rfl
          · intro A wx hR hout hdep K hK
            have h98 : A.tmps[98]?.getD undef = .pointer (some ⟨b, 11, none⟩) := hdep 98 (by kernel_rfl)
            refine if_yes (by kernel_rfl) ?_
            have e11 := keep_cell hR e11
            have e12 := keep_cell hR e12
            simp [go_sem, h98, e11, e12, f1, f2, f3, f4, f4', f5, f5', f6, f7, f7']
            exact hK.out _ _ (Below.refl _ _) rfl
          · intro A wx hR hout hdep K hK
            have h99 : A.tmps[99]?.getD undef = .slice la NL lc := hdep 99 (by kernel_rfl)
            refine if_yes (by kernel_rfl) ?_
            simp [go_sem, h99, f1, f2, f3, f4, f4', f5, f5', f6, f7, f7']
            exact hK.out _ _ (Below.refl _ _) rfl
          · intro A wx hR hout hdep K hK
            have h100 : A.tmps[100]?.getD undef = .int .i64 (NL : Int) := hdep 100 (by kernel_rfl)
            refine if_yes (by kernel_rfl) ?_
            simp [go_sem, h100, f1, f2, f3, f4, f4', f5, f5', f6, f7, f7']
            exact hK.out _ _ (Below.refl _ _) rfl
          · intro A wx hR hout hdep K hK
            have h101 : A.tmps[101]?.getD undef = .int .i64 (OW : Int) := hdep 101 (by kernel_rfl)
            refine if_yes (by kernel_rfl) ?_
            simp [go_sem, h101, f1, f2, f3, f4, f4', f5, f5', f6, f7, f7']
            exact hK.out _ _ (Below.refl _ _) rfl
          · intro A wx hR hout hdep K hK
            have h7 : A.tmps[7]?.getD undef = .int .u32 (CN : Int) := hout 7 (by kernel_rfl)
            refine if_yes (by kernel_rfl) ?_
            simp [go_sem, h7, f1, f2, f3, f4, f4', f5, f5', f6, f7, f7']
            exact hK.out _ _ (Below.refl _ _) rfl
          · intro A wx hR hout hdep K hK
            have h7 : A.tmps[7]?.getD undef = .int .u32 (CN : Int) := hout 7 (by kernel_rfl)
            refine if_yes (by kernel_rfl) ?_
            simp [go_sem, h7, f1, f2, f3, f4, f4', f5, f5', f6, f7, f7']
            exact hK.out _ _ (Below.refl _ _) rfl
          · intro A wx hR hout hdep K hK
            have h0 : A.tmps[0]?.getD undef = .pointer (some ⟨b, 0, none⟩) := hout 0 (by kernel_rfl)
            refine if_yes (by kernel_rfl) ?_
            simp [go_sem, h0, f1, f2, f3, f4, f4', f5, f5', f6, f7, f7']
            exact hK.out _ _ (Below.refl _ _) rfl
          · intro A wx hR hout hdep K hK
            have h105 : A.tmps[105]?.getD undef = .pointer (some ⟨b, 0, none⟩) := hdep 105 (by kernel_rfl)
            refine if_yes (by kernel_rfl) ?_
            simp [go_sem, h105, f1, f2, f3, f4, f4', f5, f5', f6, f7, f7']
            exact hK.out _ _ (Below.refl _ _) rfl
          · intro A wx hR hout hdep K hK
            have h106 : A.tmps[106]?.getD undef = .pointer (some ⟨b, 0, none⟩) := hdep 106 (by kernel_rfl)
            refine if_yes (by kernel_rfl) ?_
            simp [go_sem, h106, f1, f2, f3, f4, f4', f5, f5', f6, f7, f7']
            exact hK.out _ _ (Below.refl _ _) rfl
          · intro A wx hR hout hdep K hK
            have h107 : A.tmps[107]?.getD undef = .pointer (some ⟨b, 0, none⟩) := hdep 107 (by kernel_rfl)
            refine if_yes (by kernel_rfl) ?_
            simp [go_sem, h107, f1, f2, f3, f4, f4', f5, f5', f6, f7, f7']
            exact hK.out _ _ (Below.refl _ _) rfl
          · intro A wx hR hout hdep K hK
            have h108 : A.tmps[108]?.getD undef = .pointer (some ⟨b, 12, none⟩) := hdep 108 (by kernel_rfl)
            refine if_yes (by kernel_rfl) ?_
            have e11 := keep_cell hR e11
            have e12 := keep_cell hR e12
            simp [go_sem, h108, e11, e12, f1, f2, f3, f4, f4', f5, f5', f6, f7, f7']
            exact hK.out _ _ (Below.refl _ _) rfl
          · intro A wx hR hout hdep K hK
            have h109 : A.tmps[109]?.getD undef = .int .i64 (GL : Int) := hdep 109 (by kernel_rfl)
            refine if_yes (by kernel_rfl) ?_
            simp [go_sem, h109, f1, f2, f3, f4, f4', f5, f5', f6, f7, f7']
            exact hK.out _ _ (Below.refl _ _) rfl
          · intro A wx hR hout hdep K hK
            have h104 : A.tmps[104]?.getD undef = .int .u32 (CN : Int) := hdep 104 (by kernel_rfl)
            have h110 : A.tmps[110]?.getD undef = .int .u32 (GL : Int) := hdep 110 (by kernel_rfl)
            refine if_yes (by kernel_rfl) ?_
            simp [go_sem, h104, h110, f1, f2, f3, f4, f4', f5, f5', f6, f7, f7']
            exact hK.out _ _ (Below.refl _ _) rfl
          · intro A wx hR hout hdep K hK
            have h94 : A.tmps[94]?.getD undef = .int .u32 (A8 : Int) := hdep 94 (by kernel_rfl)
            have h102 : A.tmps[102]?.getD undef = .int .u32 (OW : Int) := hdep 102 (by kernel_rfl)
            have h103 : A.tmps[103]?.getD undef = .int .u32 (CN : Int) := hdep 103 (by kernel_rfl)
            have h111 : A.tmps[111]?.getD undef = .int .u32 (FI : Int) := hdep 111 (by kernel_rfl)
            refine if_yes (by kernel_rfl) ?_
            simp [go_sem, h94, h102, h103, h111, f1, f2, f3, f4, f4', f5, f5', f6, f7, f7']
            exact hK.out _ _ ((Below.refl _ _).alloc (Nat.le_refl _) _) (SlN.new _ [3, A8, 1879048202, OW, 1879048209, CN, 1879048211, FI] _ rfl 8 rfl (by simp))
          · intro A wx hR hout hdep K hK
            have h112 := hdep 112 (by kernel_rfl)
            refine if_yes (by kernel_rfl) ?_
            obtain ⟨v28, hv28⟩ : ∃ v, v = A.tmps[112]?.getD undef := ⟨_, rfl⟩
            rw [← hv28] at h112
            have hv28 := hv28.symm
            simp [go_sem, hv28]
            refine (K92.out v28 _ h112).mono ?_
            rintro e w6 ⟨rfl, hb6⟩
            exact hK.out _ _ hb6 rfl
          have h93 : f 93 = .pointer (some ⟨b, 0, none⟩) := hf 93 (by kernel_rfl)
          have h94 : f 94 = .int .u32 (A8 : Int) := hf 94 (by kernel_rfl)
          have h95 : f 95 = .pointer (some ⟨b, 0, none⟩) := hf 95 (by kernel_rfl)
          have h96 : f 96 = .pointer (some ⟨b, 0, none⟩) := hf 96 (by kernel_rfl)
          have h97 : f 97 = .pointer (some ⟨b, 0, none⟩) := hf 97 (by kernel_rfl)
          have h98 : f 98 = .pointer (some ⟨b, 11, none⟩) := hf 98 (by kernel_rfl)
          have h99 : f 99 = .slice la NL lc := hf 99 (by kernel_rfl)
          have h100 : f 100 = .int .i64 (NL : Int) := hf 100 (by kernel_rfl)
          have h101 : f 101 = .int .i64 (OW : Int) := hf 101 (by kernel_rfl)
          have h102 : f 102 = .int .u32 (OW : Int) := hf 102 (by kernel_rfl)
          have h103 : f 103 = .int .u32 (CN : Int) := hf 103 (by kernel_rfl)
          have h104 : f 104 = .int .u32 (CN : Int) := hf 104 (by kernel_rfl)
          have h105 : f 105 = .pointer (some ⟨b, 0, none⟩) := hf 105 (by kernel_rfl)
          have h106 : f 106 = .pointer (some ⟨b, 0, none⟩) := hf 106 (by kernel_rfl)
          have h107 : f 107 = .pointer (some ⟨b, 0, none⟩) := hf 107 (by kernel_rfl)
          have h108 : f 108 = .pointer (some ⟨b, 12, none⟩) := hf 108 (by kernel_rfl)
          have h109 : f 109 = .int .i64 (GL : Int) := hf 109 (by kernel_rfl)
          have h110 : f 110 = .int .u32 (GL : Int) := hf 110 (by kernel_rfl)
          have h111 : f 111 = .int .u32 (FI : Int) := hf 111 (by kernel_rfl)
          have h113 : f 113 = .string ⟨(wds [3, A8, 1879048202, OW, 1879048209, CN, 1879048211, FI]).toArray⟩ := hf 113 (by kernel_rfl)
          have h112 := hf 112 (by kernel_rfl)
          obtain ⟨v28, hv28⟩ : ∃ v, v = f 112 := ⟨_, rfl⟩
          rw [← hv28] at h112
          have hv28 := hv28.symm
          simp only [putSl, List.take_succ_cons, List.take_zero, Act.put, List.setIfInBounds_toArray, List.set_cons_zero, List.set_cons_succ, h93, h94, h95, h96, h97, h98, h99, h100, h101, h102, h103, h104, h105, h106, h107, h108, h109, h110, h111, h113, hv28] at hA
          subst hA
          have H3 : Hid (Below w.heap.size w wy) := below_tr HS14.out.2.1 hR
          have H3i : Hid (IsB w.heap.size w.heap.size (wds (((needW ps k) ++ [4, A3, 5, A5, 6, A4, 17, A6]) ++ [10, S5, 18, S6, 11, 16, 19, 8])) wy) := isB_keep HS14.out.1 hR
          clear h93 h94 h95 h96 h97 h98 h99 h100 h101 h102 h103 h104 h105 h106 h107 h108 h109 h110 h111 h113 h112 hv28 hf hR K92 e11 e12 f1 f2 f3 f4 f4' f5 f5' f6 f7 f7'
          generalize wy = wz19 at H3 H3i ⊢
          have KW := wrW w.heap.size (((needW ps k) ++ [4, A3, 5, A5, 6, A4, 17, A6]) ++ [10, S5, 18, S6, 11, 16, 19, 8]) [3, A8, 1879048202, OW, 1879048209, CN, 1879048211, FI] wz19 H3i.out (by have := HS14.out.2.2; omega) (by simp) H3.out.size
          refine wpAny_ready (rs := [21]) (by kernel_rfl) (by decide) (AllReady.cons rfl ?_ AllReady.nil)
          intro K5 hK5
          refine if_yes (by kernel_rfl) ?_
          simp [go_sem]
          refine (KW).mono ?_
          rintro e wd18 ⟨rfl, hI4, hb4⟩
          refine hK5 _ _ ?_
          refine wpAny_done (by kernel_rfl) ?_ _
          clear hK5 K5
          clear H3i
          have HS17 : Hid (IsB w.heap.size w.heap.size (wds ((((needW ps k) ++ [4, A3, 5, A5, 6, A4, 17, A6]) ++ [10, S5, 18, S6, 11, 16, 19, 8]) ++ [3, A8, 1879048202, OW, 1879048209, CN, 1879048211, FI])) wd18 ∧ Below w.heap.size w wd18 ∧ ((((needW ps k) ++ [4, A3, 5, A5, 6, A4, 17, A6]) ++ [10, S5, 18, S6, 11, 16, 19, 8]) ++ [3, A8, 1879048202, OW, 1879048209, CN, 1879048211, FI]).length ≤ 40) := ⟨hI4, H3.out.trans (hb4.mono (Nat.le_refl _)), by have h1 := HS14.out.2.2; simp only [List.length_append, List.length_cons, List.length_nil] at h1 ⊢; omega⟩
          clear KW hI4 hb4 H3
          obtain ⟨wb20, hW2⟩ : ∃ z, wd18.alloc (.cells #[.int .u32 0, .int .u32 0] 22) = z := ⟨_, rfl⟩
          have hal : Below wd18.heap.size wd18 wb20 := by rw [← hW2]; exact (Below.refl _ _).alloc (Nat.le_refl _) _
          have HS21 : Hid (IsB w.heap.size w.heap.size (wds ((((needW ps k) ++ [4, A3, 5, A5, 6, A4, 17, A6]) ++ [10, S5, 18, S6, 11, 16, 19, 8]) ++ [3, A8, 1879048202, OW, 1879048209, CN, 1879048211, FI])) wb20 ∧ Below w.heap.size w wb20) := ⟨isB_keep HS17.out.1 hal, below_tr HS17.out.2.1 hal⟩
          have K92 := words92 [0, 0] (by simp) (.slice (some ⟨wd18.heap.size, 0, none⟩) 2 2) wb20 (by intro x hx; have hb := HBD.out; have hc := HIX.out; simp at hx; omega) (by rw [← hW2]; exact SlN.new wd18 [0, 0] #[.int .u32 0, .int .u32 0] rfl 2 rfl (by simp))
          clear hal
          go_wp2_with fail
          refine K92.mono ?_
          rintro e wc23 ⟨rfl, hb3⟩
          have H3 : Hid (Below w.heap.size w wc23) := below_tr HS21.out.2 hb3
          have KW := wrW w.heap.size ((((needW ps k) ++ [4, A3, 5, A5, 6, A4, 17, A6]) ++ [10, S5, 18, S6, 11, 16, 19, 8]) ++ [3, A8, 1879048202, OW, 1879048209, CN, 1879048211, FI]) [0, 0] wc23 (isB_keep HS21.out.1 hb3) (by have := HS17.out.2.2; omega) (by simp) (Nat.le_trans HS21.out.2.size hb3.size)
          clear K92 hW2 hb3
          go_wp2_with fail
          refine KW.mono ?_
          rintro e wd24 ⟨rfl, hI4, hb4⟩
          have HS22 : Hid (IsB w.heap.size w.heap.size (wds (((((needW ps k) ++ [4, A3, 5, A5, 6, A4, 17, A6]) ++ [10, S5, 18, S6, 11, 16, 19, 8]) ++ [3, A8, 1879048202, OW, 1879048209, CN, 1879048211, FI]) ++ [0, 0])) wd24 ∧ Below w.heap.size w wd24 ∧ (((((needW ps k) ++ [4, A3, 5, A5, 6, A4, 17, A6]) ++ [10, S5, 18, S6, 11, 16, 19, 8]) ++ [3, A8, 1879048202, OW, 1879048209, CN, 1879048211, FI]) ++ [0, 0]).length ≤ 42) := ⟨hI4, H3.out.trans (hb4.mono (Nat.le_refl _)), by have h1 := HS17.out.2.2; simp only [List.length_append, List.length_cons, List.length_nil] at h1 ⊢; omega⟩
          clear KW hI4 hb4 H3
          have KS := string43 w.heap.size w.heap.size _ wd24 HS22.out.1 HS22.out.2.1.size
          have HE : Hid (wds (((((needW ps k) ++ [4, A3, 5, A5, 6, A4, 17, A6]) ++ [10, S5, 18, S6, 11, 16, 19, 8]) ++ [3, A8, 1879048202, OW, 1879048209, CN, 1879048211, FI]) ++ [0, 0]) = wds (y.linkW ps)) := by show _ = _; rw [HLW.out]; rw [if_pos hin]; simp only [if_true, List.append_assoc, List.nil_append]
          have HF : Hid (Below w.heap.size w wd24) := HS22.out.2.1
          rw [HE.out] at KS
          clear HS22
          go_wp2_with fail
          refine KS.mono ?_
          rintro e w9 ⟨rfl, hb9⟩
          go_wp2
          go_ret
          exact ⟨rfl, HF.out.trans hb9⟩
        · have g13d : (decide ((0 : Int) < (IN : Int))) = true := decide_eq_true (by omega)
          have g13n : (0 : Int) < (IN : Int) := by omega
          go_upto_region 12 with fail
          have k1 : (A7 : Int) + (IN : Int) = (IX : Int) := by have := HIX.out; omega
          have k2 : (IX : Int) % 4294967296 = (IX : Int) := by have := HIX.out; have := HBD.out; omega
          have k2' : IntKind.u32.wrap (IX : Int) = (IX : Int) := by rw [IntKind.wrap_u32]; exact k2
          have k3 : (IX : Int) - 1 = (IY : Int) := by have := HIX.out; omega
          have k4 : (IY : Int) % 4294967296 = (IY : Int) := by have := HIX.out; have := HBD.out; omega
          have k4' : IntKind.u32.wrap (IY : Int) = (IY : Int) := by rw [IntKind.wrap_u32]; exact k4
          have K92 : Hid (∀ v w', SlN w' v [12, IY] → Calls Tryz.prog 92 #[v] w' fun e w'' => e = .returned (.string ⟨(wds [12, IY]).toArray⟩) ∧ Below w'.heap.size w' w'') := fun v w' hv => words92 [12, IY] (by simp) v w' (by intro x hx; have hb := HBD.out; have hc := HIX.out; simp at hx; omega) hv
          refine wp_region_cut (R := Ext) [⟨73, fun v _ => v = .pointer (some ⟨b, 0, none⟩), fun _ _ _ _ h => h⟩, ⟨74, fun v _ => v = .int .u32 (A7 : Int), fun _ _ _ _ h => h⟩, ⟨75, fun v _ => v = .pointer (some ⟨b, 0, none⟩), fun _ _ _ _ h => h⟩, ⟨76, fun v _ => v = .pointer (some ⟨b, 0, none⟩), fun _ _ _ _ h => h⟩, ⟨77, fun v _ => v = .pointer (some ⟨b, 0, none⟩), fun _ _ _ _ h => h⟩, ⟨78, fun v _ => v = .pointer (some ⟨b, 13, none⟩), fun _ _ _ _ h => h⟩, ⟨79, fun v _ => v = .int .u32 (IN : Int), fun _ _ _ _ h => h⟩, ⟨80, fun v _ => v = .int .u32 (IX : Int), fun _ _ _ _ h => h⟩, ⟨81, fun v _ => v = .int .u32 (IY : Int), fun _ _ _ _ h => h⟩, ⟨82, fun v W => SlN W v [12, IY], fun v A C hb h => h.keep hb⟩, ⟨83, fun v _ => v = .string ⟨(wds [12, IY]).toArray⟩, fun _ _ _ _ h => h⟩] _ 11 (by kernel_rfl) rfl (by kernel_rfl) (by decide) (by kernel_rfl) (Below.drew (Below.refl _ _)) (fun _ _ _ h1 h2 => below_tr h1 h2) (fun QQ => ⟨?_, ?_, ?_, ?_, ?_, ?_, ?_, ?_, ?_, ?_, ?_, trivial⟩) (fun f wy hR hf A hA => ?_)
          · intro A wx hR hout hdep K hK
            have h0 : A.tmps[0]?.getD undef = .pointer (some ⟨b, 0, none⟩) := hout 0 (by kernel_rfl)
            refine if_yes (by kernel_rfl) ?_
            simp [go_sem, h0, k1, k2, k2', k3, k4, k4']
            exact hK.out _ _ (Below.refl _ _) rfl
          · intro A wx hR hout hdep K hK
            have h73 : A.tmps[73]?.getD undef = .pointer (some ⟨b, 0, none⟩) := hdep 73 (by kernel_rfl)
            refine if_yes (by kernel_rfl) ?_
            simp [go_sem, h73, k1, k2, k2', k3, k4, k4']
            refine (K7.out _ (below_tr HS14.out.2.1 hR)).mono ?_
            rintro e w6 ⟨rfl, hb6⟩
            exact hK.out _ _ hb6 rfl
          · intro A wx hR hout hdep K hK
            have h0 : A.tmps[0]?.getD undef = .pointer (some ⟨b, 0, none⟩) := hout 0 (by kernel_rfl)
            refine if_yes (by kernel_rfl) ?_
            simp [go_sem, h0, k1, k2, k2', k3, k4, k4']
            exact hK.out _ _ (Below.refl _ _) rfl
          · intro A wx hR hout hdep K hK
            have h75 : A.tmps[75]?.getD undef = .pointer (some ⟨b, 0, none⟩) := hdep 75 (by kernel_rfl)
            refine if_yes (by kernel_rfl) ?_
            simp [go_sem, h75, k1, k2, k2', k3, k4, k4']
            exact hK.out _ _ (Below.refl _ _) rfl
          · intro A wx hR hout hdep K hK
            have h76 : A.tmps[76]?.getD undef = .pointer (some ⟨b, 0, none⟩) := hdep 76 (by kernel_rfl)
            refine if_yes (by kernel_rfl) ?_
            simp [go_sem, h76, k1, k2, k2', k3, k4, k4']
            exact hK.out _ _ (Below.refl _ _) rfl
          · intro A wx hR hout hdep K hK
            have h77 : A.tmps[77]?.getD undef = .pointer (some ⟨b, 0, none⟩) := hdep 77 (by kernel_rfl)
            refine if_yes (by kernel_rfl) ?_
            simp [go_sem, h77, k1, k2, k2', k3, k4, k4']
            exact hK.out _ _ (Below.refl _ _) rfl
          · intro A wx hR hout hdep K hK
            have h78 : A.tmps[78]?.getD undef = .pointer (some ⟨b, 13, none⟩) := hdep 78 (by kernel_rfl)
            refine if_yes (by kernel_rfl) ?_
            have g13 := keep_cell hR g13
            simp [go_sem, h78, g13, k1, k2, k2', k3, k4, k4']
            exact hK.out _ _ (Below.refl _ _) rfl
          · intro A wx hR hout hdep K hK
            have h74 : A.tmps[74]?.getD undef = .int .u32 (A7 : Int) := hdep 74 (by kernel_rfl)
            have h79 : A.tmps[79]?.getD undef = .int .u32 (IN : Int) := hdep 79 (by kernel_rfl)
            refine if_yes (by kernel_rfl) ?_
            simp [go_sem, h74, h79, k1, k2, k2', k3, k4, k4']
            exact hK.out _ _ (Below.refl _ _) rfl
          · intro A wx hR hout hdep K hK
            have h80 : A.tmps[80]?.getD undef = .int .u32 (IX : Int) := hdep 80 (by kernel_rfl)
            refine if_yes (by kernel_rfl) ?_
            simp [go_sem, h80, k1, k2, k2', k3, k4, k4']
            exact hK.out _ _ (Below.refl _ _) rfl
          · intro A wx hR hout hdep K hK
            have h81 : A.tmps[81]?.getD undef = .int .u32 (IY : Int) := hdep 81 (by kernel_rfl)
            refine if_yes (by kernel_rfl) ?_
            simp [go_sem, h81, k1, k2, k2', k3, k4, k4']
            exact hK.out _ _ ((Below.refl _ _).alloc (Nat.le_refl _) _) (SlN.new _ [12, IY] _ rfl 2 rfl (by simp))
          · intro A wx hR hout hdep K hK
            have h82 := hdep 82 (by kernel_rfl)
            refine if_yes (by kernel_rfl) ?_
            obtain ⟨v28, hv28⟩ : ∃ v, v = A.tmps[82]?.getD undef := ⟨_, rfl⟩
            rw [← hv28] at h82
            have hv28 := hv28.symm
            simp [go_sem, hv28]
            refine (K92.out v28 _ h82).mono ?_
            rintro e w6 ⟨rfl, hb6⟩
            exact hK.out _ _ hb6 rfl
          have h73 : f 73 = .pointer (some ⟨b, 0, none⟩) := hf 73 (by kernel_rfl)
          have h74 : f 74 = .int .u32 (A7 : Int) := hf 74 (by kernel_rfl)
          have h75 : f 75 = .pointer (some ⟨b, 0, none⟩) := hf 75 (by kernel_rfl)
          have h76 : f 76 = .pointer (some ⟨b, 0, none⟩) := hf 76 (by kernel_rfl)
          have h77 : f 77 = .pointer (some ⟨b, 0, none⟩) := hf 77 (by kernel_rfl)
          have h78 : f 78 = .pointer (some ⟨b, 13, none⟩) := hf 78 (by kernel_rfl)
          have h79 : f 79 = .int .u32 (IN : Int) := hf 79 (by kernel_rfl)
          have h80 : f 80 = .int .u32 (IX : Int) := hf 80 (by kernel_rfl)
          have h81 : f 81 = .int .u32 (IY : Int) := hf 81 (by kernel_rfl)
          have h83 : f 83 = .string ⟨(wds [12, IY]).toArray⟩ := hf 83 (by kernel_rfl)
          have h82 := hf 82 (by kernel_rfl)
          obtain ⟨v28, hv28⟩ : ∃ v, v = f 82 := ⟨_, rfl⟩
          rw [← hv28] at h82
          have hv28 := hv28.symm
          simp only [putSl, List.take_succ_cons, List.take_zero, Act.put, List.setIfInBounds_toArray, List.set_cons_zero, List.set_cons_succ, h73, h74, h75, h76, h77, h78, h79, h80, h81, h83, hv28] at hA
          subst hA
          have H3 : Hid (Below w.heap.size w wy) := below_tr HS14.out.2.1 hR
          have H3i : Hid (IsB w.heap.size w.heap.size (wds (((needW ps k) ++ [4, A3, 5, A5, 6, A4, 17, A6]) ++ [10, S5, 18, S6, 11, 16, 19, 8])) wy) := isB_keep HS14.out.1 hR
          clear h73 h74 h75 h76 h77 h78 h79 h80 h81 h83 h82 hv28 hf hR K92 g13 g13d g13n k1 k2 k2' k3 k4 k4'
          generalize wy = wz27 at H3 H3i ⊢
          have KW := wrW w.heap.size (((needW ps k) ++ [4, A3, 5, A5, 6, A4, 17, A6]) ++ [10, S5, 18, S6, 11, 16, 19, 8]) [12, IY] wz27 H3i.out (by have := HS14.out.2.2; omega) (by simp) H3.out.size
          refine wpAny_ready (rs := [11]) (by kernel_rfl) (by decide) (AllReady.cons rfl ?_ AllReady.nil)
          intro K5 hK5
          refine if_yes (by kernel_rfl) ?_
          simp [go_sem]
          refine (KW).mono ?_
          rintro e wd26 ⟨rfl, hI4, hb4⟩
          refine hK5 _ _ ?_
          refine wpAny_done (by kernel_rfl) ?_ _
          clear hK5 K5
          clear H3i
          have HS25 : Hid (IsB w.heap.size w.heap.size (wds ((((needW ps k) ++ [4, A3, 5, A5, 6, A4, 17, A6]) ++ [10, S5, 18, S6, 11, 16, 19, 8]) ++ [12, IY])) wd26 ∧ Below w.heap.size w wd26 ∧ ((((needW ps k) ++ [4, A3, 5, A5, 6, A4, 17, A6]) ++ [10, S5, 18, S6, 11, 16, 19, 8]) ++ [12, IY]).length ≤ 34) := ⟨hI4, H3.out.trans (hb4.mono (Nat.le_refl _)), by have h1 := HS14.out.2.2; simp only [List.length_append, List.length_cons, List.length_nil] at h1 ⊢; omega⟩
          clear KW hI4 hb4 H3
          have e9 := keep_cell HS25.out.2.1 HD.out.2.2.1
          have ec1 : (NS : Int) + 1 = (CN : Int) := by have := HIX.out; omega
          have ec3 : IntKind.i64.wrap (CN : Int) = (CN : Int) := by rw [IntKind.wrap_i64]; have := HIX.out; have := HBD.out; omega
          have ec4 : (CN : Int) % 4294967296 = (CN : Int) := by have := HIX.out; have := HBD.out; omega
          have ec4' : IntKind.u32.wrap (CN : Int) = (CN : Int) := by rw [IntKind.wrap_u32]; exact ec4
          have ec2 := wrap64_nat CN (by have := HIX.out; have := HBD.out; omega)
          go_upto_region 14 with fail
          clear e9 ec1 ec2 ec3 ec4 ec4'
          have e11 := keep_cell HS25.out.2.1 HD.out.2.2.2.1
          have e12 := keep_cell HS25.out.2.1 HD.out.2.2.2.2.1
          have f1 : (2 : Int) + (NL : Int) = (OW : Int) := by have := HIX.out; omega
          have f3 : IntKind.i64.wrap (OW : Int) = (OW : Int) := by rw [IntKind.wrap_i64]; have := HIX.out; have := HBD.out; omega
          have f4 : (OW : Int) % 4294967296 = (OW : Int) := by have := HIX.out; have := HBD.out; omega
          have f4' : IntKind.u32.wrap (OW : Int) = (OW : Int) := by rw [IntKind.wrap_u32]; exact f4
          have f5 : (GL : Int) % 4294967296 = (GL : Int) := by have := HBD.out; omega
          have f5' : IntKind.u32.wrap (GL : Int) = (GL : Int) := by rw [IntKind.wrap_u32]; exact f5
          have f6 : (CN : Int) - (GL : Int) = (FI : Int) := by have := HIX.out; have := HBD.out; omega
          have f7 : (FI : Int) % 4294967296 = (FI : Int) := by have := HIX.out; have := HBD.out; omega
          have f7' : IntKind.u32.wrap (FI : Int) = (FI : Int) := by rw [IntKind.wrap_u32]; exact f7
          have K92 : Hid (∀ v w', SlN w' v [3, A8, 1879048202, OW, 1879048209, CN, 1879048211, FI] → Calls Tryz.prog 92 #[v] w' fun e w'' => e = .returned (.string ⟨(wds [3, A8, 1879048202, OW, 1879048209, CN, 1879048211, FI]).toArray⟩) ∧ Below w'.heap.size w' w'') := fun v w' hv => words92 [3, A8, 1879048202, OW, 1879048209, CN, 1879048211, FI] (by simp) v w' (by intro x hx; have hb := HBD.out; have hc := HIX.out; simp at hx; omega) hv
          have f2 := wrap64_nat OW (by have := HIX.out; have := HBD.out; omega)
          refine wp_region_cut (R := Ext) [⟨93, fun v _ => v = .pointer (some ⟨b, 0, none⟩), fun _ _ _ _ h => h⟩, ⟨94, fun v _ => v = .int .u32 (A8 : Int), fun _ _ _ _ h => h⟩, ⟨95, fun v _ => v = .pointer (some ⟨b, 0, none⟩), fun _ _ _ _ h => h⟩, ⟨96, fun v _ => v = .pointer (some ⟨b, 0, none⟩), fun _ _ _ _ h => h⟩, ⟨97, fun v _ => v = .pointer (some ⟨b, 0, none⟩), fun _ _ _ _ h => h⟩, ⟨98, fun v _ => v = .pointer (some ⟨b, 11, none⟩), fun _ _ _ _ h => h⟩, ⟨99, fun v _ => v = .slice la NL lc, fun _ _ _ _ h => h⟩, ⟨100, fun v _ => v = .int .i64 (NL : Int), fun _ _ _ _ h => h⟩, ⟨101, fun v _ => v = .int .i64 (OW : Int), fun _ _ _ _ h => h⟩, ⟨102, fun v _ => v = .int .u32 (OW : Int), fun _ _ _ _ h => h⟩, ⟨103, fun v _ => v = .int .u32 (CN : Int), fun _ _ _ _ h => h⟩, ⟨104, fun v _ => v = .int .u32 (CN : Int), fun _ _ _ _ h => h⟩, ⟨105, fun v _ => v = .pointer (some ⟨b, 0, none⟩), fun _ _ _ _ h => h⟩, ⟨106, fun v _ => v = .pointer (some ⟨b, 0, none⟩), fun _ _ _ _ h => h⟩, ⟨107, fun v _ => v = .pointer (some ⟨b, 0, none⟩), fun _ _ _ _ h => h⟩, ⟨108, fun v _ => v = .pointer (some ⟨b, 12, none⟩), fun _ _ _ _ h => h⟩, ⟨109, fun v _ => v = .int .i64 (GL : Int), fun _ _ _ _ h => h⟩, ⟨110, fun v _ => v = .int .u32 (GL : Int), fun _ _ _ _ h => h⟩, ⟨111, fun v _ => v = .int .u32 (FI : Int), fun _ _ _ _ h => h⟩, ⟨112, fun v W => SlN W v [3, A8, 1879048202, OW, 1879048209, CN, 1879048211, FI], fun v A C hb h => h.keep hb⟩, ⟨113, fun v _ => v = .string ⟨(wds [3, A8, 1879048202, OW, 1879048209, CN, 1879048211, FI]).toArray⟩, fun _ _ _ _ h => h⟩] _ 21 (by kernel_rfl) rfl (by kernel_rfl) (by decide) (by kernel_rfl) (Below.drew (Below.refl _ _)) (fun _ _ _ h1 h2 => below_tr h1 h2) (fun QQ => ⟨?_, ?_, ?_, ?_, ?_, ?_, ?_, ?_, ?_, ?_, ?_, ?_, ?_, ?_, ?_, ?_, ?_, ?_, ?_, ?_, ?_, trivial⟩) (fun f wy hR hf A hA => ?_)
          · intro A wx hR hout hdep K hK
            have h0 : A.tmps[0]?.getD undef = .pointer (some ⟨b, 0, none⟩) := hout 0 (by kernel_rfl)
            refine if_yes (by kernel_rfl) ?_
            simp [go_sem, h0, f1, f2, f3, f4, f4', f5, f5', f6, f7, f7']
            exact hK.out _ _ (Below.refl _ _) rfl
          · intro A wx hR hout hdep K hK
            have h93 : A.tmps[93]?.getD undef = .pointer (some ⟨b, 0, none⟩) := hdep 93 (by kernel_rfl)
            refine if_yes (by kernel_rfl) ?_
            simp [go_sem, h93, f1, f2, f3, f4, f4', f5, f5', f6, f7, f7']
            refine (K8.out _ (below_tr HS25.out.2.1 hR)).mono ?_
            rintro e w6 ⟨rfl, hb6⟩
            exact hK.out _ _ hb6 rfl
          · intro A wx hR hout hdep K hK
            have h0 : A.tmps[0]?.getD undef = .pointer (some ⟨b, 0, none⟩) := hout 0 (by kernel_rfl)
            refine if_yes (by kernel_rfl) ?_
            simp [go_sem, h0, f1, f2, f3, f4, f4', f5, f5', f6, f7, f7']
            exact hK.out _ _ (Below.refl _ _) rfl
          · intro A wx hR hout hdep K hK
            have h95 : A.tmps[95]?.getD undef = .pointer (some ⟨b, 0, none⟩) := hdep 95 (by kernel_rfl)
            refine if_yes (by kernel_rfl) ?_
            simp [go_sem, h95, f1, f2, f3, f4, f4', f5, f5', f6, f7, f7']
            exact hK.out _ _ (Below.refl _ _) rfl
          · intro A wx hR hout hdep K hK
            have h96 : A.tmps[96]?.getD undef = .pointer (some ⟨b, 0, none⟩) := hdep 96 (by kernel_rfl)
            refine if_yes (by kernel_rfl) ?_
            simp [go_sem, h96, f1, f2, f3, f4, f4', f5, f5', f6, f7, f7']
            exact hK.out _ _ (Below.refl _ _) rfl
          · intro A wx hR hout hdep K hK
            have h97 : A.tmps[97]?.getD undef = .pointer (some ⟨b, 0, none⟩) := hdep 97 (by kernel_rfl)
            refine if_yes (by kernel_rfl) ?_
            simp [go_sem, h97, f1, f2, f3, f4, f4', f5, f5', f6, f7, f7']
            exact hK.out _ _ (Below.refl _ _) rfl
          · intro A wx hR hout hdep K hK
            have h98 : A.tmps[98]?.getD undef = .pointer (some ⟨b, 11, none⟩) := hdep 98 (by kernel_rfl)
            refine if_yes (by kernel_rfl) ?_
            have e11 := keep_cell hR e11
            have e12 := keep_cell hR e12
            simp [go_sem, h98, e11, e12, f1, f2, f3, f4, f4', f5, f5', f6, f7, f7']
            exact hK.out _ _ (Below.refl _ _) rfl
          · intro A wx hR hout hdep K hK
            have h99 : A.tmps[99]?.getD undef = .slice la NL lc := hdep 99 (by kernel_rfl)
            refine if_yes (by kernel_rfl) ?_
            simp [go_sem, h99, f1, f2, f3, f4, f4', f5, f5', f6, f7, f7']
            exact hK.out _ _ (Below.refl _ _) rfl
          · intro A wx hR hout hdep K hK
            have h100 : A.tmps[100]?.getD undef = .int .i64 (NL : Int) := hdep 100 (by kernel_rfl)
            refine if_yes (by kernel_rfl) ?_
            simp [go_sem, h100, f1, f2, f3, f4, f4', f5, f5', f6, f7, f7']
            exact hK.out _ _ (Below.refl _ _) rfl
          · intro A wx hR hout hdep K hK
            have h101 : A.tmps[101]?.getD undef = .int .i64 (OW : Int) := hdep 101 (by kernel_rfl)
            refine if_yes (by kernel_rfl) ?_
            simp [go_sem, h101, f1, f2, f3, f4, f4', f5, f5', f6, f7, f7']
            exact hK.out _ _ (Below.refl _ _) rfl
          · intro A wx hR hout hdep K hK
            have h7 : A.tmps[7]?.getD undef = .int .u32 (CN : Int) := hout 7 (by kernel_rfl)
            refine if_yes (by kernel_rfl) ?_
            simp [go_sem, h7, f1, f2, f3, f4, f4', f5, f5', f6, f7, f7']
            exact hK.out _ _ (Below.refl _ _) rfl
          · intro A wx hR hout hdep K hK
            have h7 : A.tmps[7]?.getD undef = .int .u32 (CN : Int) := hout 7 (by kernel_rfl)
            refine if_yes (by kernel_rfl) ?_
            simp [go_sem, h7, f1, f2, f3, f4, f4', f5, f5', f6, f7, f7']
            exact hK.out _ _ (Below.refl _ _) rfl
          · intro A wx hR hout hdep K hK
            have h0 : A.tmps[0]?.getD undef = .pointer (some ⟨b, 0, none⟩) := hout 0 (by kernel_rfl)
            refine if_yes (by kernel_rfl) ?_
            simp [go_sem, h0, f1, f2, f3, f4, f4', f5, f5', f6, f7, f7']
            exact hK.out _ _ (Below.refl _ _) rfl
          · intro A wx hR hout hdep K hK
            have h105 : A.tmps[105]?.getD undef = .pointer (some ⟨b, 0, none⟩) := hdep 105 (by kernel_rfl)
            refine if_yes (by kernel_rfl) ?_
            simp [go_sem, h105, f1, f2, f3, f4, f4', f5, f5', f6, f7, f7']
            exact hK.out _ _ (Below.refl _ _) rfl
          · intro A wx hR hout hdep K hK
            have h106 : A.tmps[106]?.getD undef = .pointer (some ⟨b, 0, none⟩) := hdep 106 (by kernel_rfl)
            refine if_yes (by kernel_rfl) ?_
            simp [go_sem, h106, f1, f2, f3, f4, f4', f5, f5', f6, f7, f7']
            exact hK.out _ _ (Below.refl _ _) rfl
          · intro A wx hR hout hdep K hK
            have h107 : A.tmps[107]?.getD undef = .pointer (some ⟨b, 0, none⟩) := hdep 107 (by kernel_rfl)
            refine if_yes (by kernel_rfl) ?_
            simp [go_sem, h107, f1, f2, f3, f4, f4', f5, f5', f6, f7, f7']
            exact hK.out _ _ (Below.refl _ _) rfl
          · intro A wx hR hout hdep K hK
            have h108 : A.tmps[108]?.getD undef = .pointer (some ⟨b, 12, none⟩) := hdep 108 (by kernel_rfl)
            refine if_yes (by kernel_rfl) ?_
            have e11 := keep_cell hR e11
            have e12 := keep_cell hR e12
            simp [go_sem, h108, e11, e12, f1, f2, f3, f4, f4', f5, f5', f6, f7, f7']
            exact hK.out _ _ (Below.refl _ _) rfl
          · intro A wx hR hout hdep K hK
            have h109 : A.tmps[109]?.getD undef = .int .i64 (GL : Int) := hdep 109 (by kernel_rfl)
            refine if_yes (by kernel_rfl) ?_
            simp [go_sem, h109, f1, f2, f3, f4, f4', f5, f5', f6, f7, f7']
            exact hK.out _ _ (Below.refl _ _) rfl
          · intro A wx hR hout hdep K hK
            have h104 : A.tmps[104]?.getD undef = .int .u32 (CN : Int) := hdep 104 (by kernel_rfl)
            have h110 : A.tmps[110]?.getD undef = .int .u32 (GL : Int) := hdep 110 (by kernel_rfl)
            refine if_yes (by kernel_rfl) ?_
            simp [go_sem, h104, h110, f1, f2, f3, f4, f4', f5, f5', f6, f7, f7']
            exact hK.out _ _ (Below.refl _ _) rfl
          · intro A wx hR hout hdep K hK
            have h94 : A.tmps[94]?.getD undef = .int .u32 (A8 : Int) := hdep 94 (by kernel_rfl)
            have h102 : A.tmps[102]?.getD undef = .int .u32 (OW : Int) := hdep 102 (by kernel_rfl)
            have h103 : A.tmps[103]?.getD undef = .int .u32 (CN : Int) := hdep 103 (by kernel_rfl)
            have h111 : A.tmps[111]?.getD undef = .int .u32 (FI : Int) := hdep 111 (by kernel_rfl)
            refine if_yes (by kernel_rfl) ?_
            simp [go_sem, h94, h102, h103, h111, f1, f2, f3, f4, f4', f5, f5', f6, f7, f7']
            exact hK.out _ _ ((Below.refl _ _).alloc (Nat.le_refl _) _) (SlN.new _ [3, A8, 1879048202, OW, 1879048209, CN, 1879048211, FI] _ rfl 8 rfl (by simp))
          · intro A wx hR hout hdep K hK
            have h112 := hdep 112 (by kernel_rfl)
            refine if_yes (by kernel_rfl) ?_
            obtain ⟨v28, hv28⟩ : ∃ v, v = A.tmps[112]?.getD undef := ⟨_, rfl⟩
            rw [← hv28] at h112
            have hv28 := hv28.symm
            simp [go_sem, hv28]
            refine (K92.out v28 _ h112).mono ?_
            rintro e w6 ⟨rfl, hb6⟩
            exact hK.out _ _ hb6 rfl
          have h93 : f 93 = .pointer (some ⟨b, 0, none⟩) := hf 93 (by kernel_rfl)
          have h94 : f 94 = .int .u32 (A8 : Int) := hf 94 (by kernel_rfl)
          have h95 : f 95 = .pointer (some ⟨b, 0, none⟩) := hf 95 (by kernel_rfl)
          have h96 : f 96 = .pointer (some ⟨b, 0, none⟩) := hf 96 (by kernel_rfl)
          have h97 : f 97 = .pointer (some ⟨b, 0, none⟩) := hf 97 (by kernel_rfl)
          have h98 : f 98 = .pointer (some ⟨b, 11, none⟩) := hf 98 (by kernel_rfl)
          have h99 : f 99 = .slice la NL lc := hf 99 (by kernel_rfl)
          have h100 : f 100 = .int .i64 (NL : Int) := hf 100 (by kernel_rfl)
          have h101 : f 101 = .int .i64 (OW : Int) := hf 101 (by kernel_rfl)
          have h102 : f 102 = .int .u32 (OW : Int) := hf 102 (by kernel_rfl)
          have h103 : f 103 = .int .u32 (CN : Int) := hf 103 (by kernel_rfl)
          have h104 : f 104 = .int .u32 (CN : Int) := hf 104 (by kernel_rfl)
          have h105 : f 105 = .pointer (some ⟨b, 0, none⟩) := hf 105 (by kernel_rfl)
          have h106 : f 106 = .pointer (some ⟨b, 0, none⟩) := hf 106 (by kernel_rfl)
          have h107 : f 107 = .pointer (some ⟨b, 0, none⟩) := hf 107 (by kernel_rfl)
          have h108 : f 108 = .pointer (some ⟨b, 12, none⟩) := hf 108 (by kernel_rfl)
          have h109 : f 109 = .int .i64 (GL : Int) := hf 109 (by kernel_rfl)
          have h110 : f 110 = .int .u32 (GL : Int) := hf 110 (by kernel_rfl)
          have h111 : f 111 = .int .u32 (FI : Int) := hf 111 (by kernel_rfl)
          have h113 : f 113 = .string ⟨(wds [3, A8, 1879048202, OW, 1879048209, CN, 1879048211, FI]).toArray⟩ := hf 113 (by kernel_rfl)
          have h112 := hf 112 (by kernel_rfl)
          obtain ⟨v28, hv28⟩ : ∃ v, v = f 112 := ⟨_, rfl⟩
          rw [← hv28] at h112
          have hv28 := hv28.symm
          simp only [putSl, List.take_succ_cons, List.take_zero, Act.put, List.setIfInBounds_toArray, List.set_cons_zero, List.set_cons_succ, h93, h94, h95, h96, h97, h98, h99, h100, h101, h102, h103, h104, h105, h106, h107, h108, h109, h110, h111, h113, hv28] at hA
          subst hA
          have H3 : Hid (Below w.heap.size w wy) := below_tr HS25.out.2.1 hR
          have H3i : Hid (IsB w.heap.size w.heap.size (wds ((((needW ps k) ++ [4, A3, 5, A5, 6, A4, 17, A6]) ++ [10, S5, 18, S6, 11, 16, 19, 8]) ++ [12, IY])) wy) := isB_keep HS25.out.1 hR
          clear h93 h94 h95 h96 h97 h98 h99 h100 h101 h102 h103 h104 h105 h106 h107 h108 h109 h110 h111 h113 h112 hv28 hf hR K92 e11 e12 f1 f2 f3 f4 f4' f5 f5' f6 f7 f7'
          generalize wy = wz30 at H3 H3i ⊢
          have KW := wrW w.heap.size ((((needW ps k) ++ [4, A3, 5, A5, 6, A4, 17, A6]) ++ [10, S5, 18, S6, 11, 16, 19, 8]) ++ [12, IY]) [3, A8, 1879048202, OW, 1879048209, CN, 1879048211, FI] wz30 H3i.out (by have := HS25.out.2.2; omega) (by simp) H3.out.size
          refine wpAny_ready (rs := [21]) (by kernel_rfl) (by decide) (AllReady.cons rfl ?_ AllReady.nil)
          intro K5 hK5
          refine if_yes (by kernel_rfl) ?_
          simp [go_sem]
          refine (KW).mono ?_
          rintro e wd29 ⟨rfl, hI4, hb4⟩
          refine hK5 _ _ ?_
          refine wpAny_done (by kernel_rfl) ?_ _
          clear hK5 K5
          clear H3i
          have HS28 : Hid (IsB w.heap.size w.heap.size (wds (((((needW ps k) ++ [4, A3, 5, A5, 6, A4, 17, A6]) ++ [10, S5, 18, S6, 11, 16, 19, 8]) ++ [12, IY]) ++ [3, A8, 1879048202, OW, 1879048209, CN, 1879048211, FI])) wd29 ∧ Below w.heap.size w wd29 ∧ (((((needW ps k) ++ [4, A3, 5, A5, 6, A4, 17, A6]) ++ [10, S5, 18, S6, 11, 16, 19, 8]) ++ [12, IY]) ++ [3, A8, 1879048202, OW, 1879048209, CN, 1879048211, FI]).length ≤ 42) := ⟨hI4, H3.out.trans (hb4.mono (Nat.le_refl _)), by have h1 := HS25.out.2.2; simp only [List.length_append, List.length_cons, List.length_nil] at h1 ⊢; omega⟩
          clear KW hI4 hb4 H3
          obtain ⟨wb31, hW2⟩ : ∃ z, wd29.alloc (.cells #[.int .u32 0, .int .u32 0] 22) = z := ⟨_, rfl⟩
          have hal : Below wd29.heap.size wd29 wb31 := by rw [← hW2]; exact (Below.refl _ _).alloc (Nat.le_refl _) _
          have HS32 : Hid (IsB w.heap.size w.heap.size (wds (((((needW ps k) ++ [4, A3, 5, A5, 6, A4, 17, A6]) ++ [10, S5, 18, S6, 11, 16, 19, 8]) ++ [12, IY]) ++ [3, A8, 1879048202, OW, 1879048209, CN, 1879048211, FI])) wb31 ∧ Below w.heap.size w wb31) := ⟨isB_keep HS28.out.1 hal, below_tr HS28.out.2.1 hal⟩
          have K92 := words92 [0, 0] (by simp) (.slice (some ⟨wd29.heap.size, 0, none⟩) 2 2) wb31 (by intro x hx; have hb := HBD.out; have hc := HIX.out; simp at hx; omega) (by rw [← hW2]; exact SlN.new wd29 [0, 0] #[.int .u32 0, .int .u32 0] rfl 2 rfl (by simp))
          clear hal
          go_wp2_with fail
          refine K92.mono ?_
          rintro e wc34 ⟨rfl, hb3⟩
          have H3 : Hid (Below w.heap.size w wc34) := below_tr HS32.out.2 hb3
          have KW := wrW w.heap.size (((((needW ps k) ++ [4, A3, 5, A5, 6, A4, 17, A6]) ++ [10, S5, 18, S6, 11, 16, 19, 8]) ++ [12, IY]) ++ [3, A8, 1879048202, OW, 1879048209, CN, 1879048211, FI]) [0, 0] wc34 (isB_keep HS32.out.1 hb3) (by have := HS28.out.2.2; omega) (by simp) (Nat.le_trans HS32.out.2.size hb3.size)
          clear K92 hW2 hb3
          go_wp2_with fail
          refine KW.mono ?_
          rintro e wd35 ⟨rfl, hI4, hb4⟩
          have HS33 : Hid (IsB w.heap.size w.heap.size (wds ((((((needW ps k) ++ [4, A3, 5, A5, 6, A4, 17, A6]) ++ [10, S5, 18, S6, 11, 16, 19, 8]) ++ [12, IY]) ++ [3, A8, 1879048202, OW, 1879048209, CN, 1879048211, FI]) ++ [0, 0])) wd35 ∧ Below w.heap.size w wd35 ∧ ((((((needW ps k) ++ [4, A3, 5, A5, 6, A4, 17, A6]) ++ [10, S5, 18, S6, 11, 16, 19, 8]) ++ [12, IY]) ++ [3, A8, 1879048202, OW, 1879048209, CN, 1879048211, FI]) ++ [0, 0]).length ≤ 44) := ⟨hI4, H3.out.trans (hb4.mono (Nat.le_refl _)), by have h1 := HS28.out.2.2; simp only [List.length_append, List.length_cons, List.length_nil] at h1 ⊢; omega⟩
          clear KW hI4 hb4 H3
          have KS := string43 w.heap.size w.heap.size _ wd35 HS33.out.1 HS33.out.2.1.size
          have HE : Hid (wds ((((((needW ps k) ++ [4, A3, 5, A5, 6, A4, 17, A6]) ++ [10, S5, 18, S6, 11, 16, 19, 8]) ++ [12, IY]) ++ [3, A8, 1879048202, OW, 1879048209, CN, 1879048211, FI]) ++ [0, 0]) = wds (y.linkW ps)) := by show _ = _; rw [HLW.out]; rw [if_neg hin]; simp only [if_true, List.append_assoc, List.nil_append]
          have HF : Hid (Below w.heap.size w wd35) := HS33.out.2.1
          rw [HE.out] at KS
          clear HS33
          go_wp2_with fail
          refine KS.mono ?_
          rintro e w9 ⟨rfl, hb9⟩
          go_wp2
          go_ret
          exact ⟨rfl, HF.out.trans hb9⟩
      · have ie1 : SOB.toList.isEmpty = false := by rw [HSB.out.2]; cases SO with | nil => exact absurd rfl hso | cons a t => rfl
        have ie2 : ¬ SOB.toList = [] := by rw [HSB.out.2]; exact hso
        go_upto_region 8 with fail
        have hkl : k < ps.length := by have := HPL.out; omega
        obtain ⟨pb, o, hpa, c0⟩ := HP.out k hkl
        replace c0 := keep_cell HS0.out.2.1 c0
        obtain ⟨X, hX⟩ : ∃ X, X = ps[k] := ⟨_, rfl⟩
        have hXb : X < 4294967296 := HBD.out.2.2.2.2.2.2.2.2.2.2.2.2.2.2 X (by rw [hX]; exact List.getElem_mem hkl)
        have HX : Hid (ps.getD k 0 = X ∧ X < 4294967296) := ⟨by rw [hX, List.getD_eq_getElem?_getD, List.getElem?_eq_getElem hkl]; rfl, hXb⟩
        rw [← hX] at c0
        have hkP : (k : Int) < (PL : Int) := by have := HPL.out; omega
        have e6 := keep_cell HS0.out.2.1 HD.out.1
        clear e7 ie1 ie2 hX hkl
        subst hpa
        obtain ⟨wb36, hW2⟩ : ∃ z, wr.alloc (.cells #[.int .u32 14, .int .u32 (X : Int)] 22) = z := ⟨_, rfl⟩
        have hal : Below wr.heap.size wr wb36 := by rw [← hW2]; exact (Below.refl _ _).alloc (Nat.le_refl _) _
        have HS37 : Hid (IsB w.heap.size w.heap.size (wds (needW ps k)) wb36 ∧ Below w.heap.size w wb36) := ⟨isB_keep HS0.out.1 hal, below_tr HS0.out.2.1 hal⟩
        have K92 := words92 [14, X] (by simp) (.slice (some ⟨wr.heap.size, 0, none⟩) 2 2) wb36 (by intro x hx; have hb := HBD.out; have hc := HX.out; simp at hx; omega) (by rw [← hW2]; exact SlN.new wr [14, X] #[.int .u32 14, .int .u32 (X : Int)] rfl 2 rfl (by simp))
        clear hal
        go_wp2_with fail
        refine K92.mono ?_
        rintro e wc39 ⟨rfl, hb3⟩
        have H3 : Hid (Below w.heap.size w wc39) := below_tr HS37.out.2 hb3
        have KW := wrW w.heap.size (needW ps k) [14, X] wc39 (isB_keep HS37.out.1 hb3) (by have := HS0.out.2.2; omega) (by simp) (Nat.le_trans HS37.out.2.size hb3.size)
        clear K92 hW2 hb3 c0 e6
        go_wp2_with fail
        refine KW.mono ?_
        rintro e wd40 ⟨rfl, hI4, hb4⟩
        have HS38 : Hid (IsB w.heap.size w.heap.size (wds ((needW ps k) ++ [14, X])) wd40 ∧ Below w.heap.size w wd40 ∧ ((needW ps k) ++ [14, X]).length ≤ 18) := ⟨hI4, H3.out.trans (hb4.mono (Nat.le_refl _)), by have h1 := HS0.out.2.2; simp only [List.length_append, List.length_cons, List.length_nil] at h1 ⊢; omega⟩
        clear KW hI4 hb4 H3
        go_wp2_with fail
        refine (K3.out wd40 HS38.out.2.1).mono ?_
        rintro e wa41 ⟨rfl, hb6⟩
        have HS42 : Hid (IsB w.heap.size w.heap.size (wds ((needW ps k) ++ [14, X])) wa41 ∧ Below w.heap.size w wa41 ∧ ((needW ps k) ++ [14, X]).length ≤ 18) := ⟨isB_keep HS38.out.1 hb6, below_tr HS38.out.2.1 hb6, HS38.out.2.2⟩
        clear hb6
        go_wp2_with fail
        refine (K5.out wa41 HS42.out.2.1).mono ?_
        rintro e wa43 ⟨rfl, hb6⟩
        have HS44 : Hid (IsB w.heap.size w.heap.size (wds ((needW ps k) ++ [14, X])) wa43 ∧ Below w.heap.size w wa43 ∧ ((needW ps k) ++ [14, X]).length ≤ 18) := ⟨isB_keep HS42.out.1 hb6, below_tr HS42.out.2.1 hb6, HS42.out.2.2⟩
        clear hb6
        go_wp2_with fail
        refine (K4.out wa43 HS44.out.2.1).mono ?_
        rintro e wa45 ⟨rfl, hb6⟩
        have HS46 : Hid (IsB w.heap.size w.heap.size (wds ((needW ps k) ++ [14, X])) wa45 ∧ Below w.heap.size w wa45 ∧ ((needW ps k) ++ [14, X]).length ≤ 18) := ⟨isB_keep HS44.out.1 hb6, below_tr HS44.out.2.1 hb6, HS44.out.2.2⟩
        clear hb6
        go_wp2_with fail
        refine (K6.out wa45 HS46.out.2.1).mono ?_
        rintro e wa47 ⟨rfl, hb6⟩
        have HS48 : Hid (IsB w.heap.size w.heap.size (wds ((needW ps k) ++ [14, X])) wa47 ∧ Below w.heap.size w wa47 ∧ ((needW ps k) ++ [14, X]).length ≤ 18) := ⟨isB_keep HS46.out.1 hb6, below_tr HS46.out.2.1 hb6, HS46.out.2.2⟩
        clear hb6
        obtain ⟨wb49, hW2⟩ : ∃ z, wa47.alloc (.cells #[.int .u32 4, .int .u32 (A3 : Int), .int .u32 5, .int .u32 (A5 : Int), .int .u32 6, .int .u32 (A4 : Int), .int .u32 17, .int .u32 (A6 : Int)] 22) = z := ⟨_, rfl⟩
        have hal : Below wa47.heap.size wa47 wb49 := by rw [← hW2]; exact (Below.refl _ _).alloc (Nat.le_refl _) _
        have HS50 : Hid (IsB w.heap.size w.heap.size (wds ((needW ps k) ++ [14, X])) wb49 ∧ Below w.heap.size w wb49) := ⟨isB_keep HS48.out.1 hal, below_tr HS48.out.2.1 hal⟩
        have K92 := words92 [4, A3, 5, A5, 6, A4, 17, A6] (by simp) (.slice (some ⟨wa47.heap.size, 0, none⟩) 8 8) wb49 (by intro x hx; have hb := HBD.out; have hc := HIX.out; simp at hx; omega) (by rw [← hW2]; exact SlN.new wa47 [4, A3, 5, A5, 6, A4, 17, A6] #[.int .u32 4, .int .u32 (A3 : Int), .int .u32 5, .int .u32 (A5 : Int), .int .u32 6, .int .u32 (A4 : Int), .int .u32 17, .int .u32 (A6 : Int)] rfl 8 rfl (by simp))
        clear hal
        go_wp2_with fail
        refine K92.mono ?_
        rintro e wc52 ⟨rfl, hb3⟩
        have H3 : Hid (Below w.heap.size w wc52) := below_tr HS50.out.2 hb3
        have KW := wrW w.heap.size ((needW ps k) ++ [14, X]) [4, A3, 5, A5, 6, A4, 17, A6] wc52 (isB_keep HS50.out.1 hb3) (by have := HS48.out.2.2; omega) (by simp) (Nat.le_trans HS50.out.2.size hb3.size)
        clear K92 hW2 hb3
        go_wp2_with fail
        refine KW.mono ?_
        rintro e wd53 ⟨rfl, hI4, hb4⟩
        have HS51 : Hid (IsB w.heap.size w.heap.size (wds (((needW ps k) ++ [14, X]) ++ [4, A3, 5, A5, 6, A4, 17, A6])) wd53 ∧ Below w.heap.size w wd53 ∧ (((needW ps k) ++ [14, X]) ++ [4, A3, 5, A5, 6, A4, 17, A6]).length ≤ 26) := ⟨hI4, H3.out.trans (hb4.mono (Nat.le_refl _)), by have h1 := HS48.out.2.2; simp only [List.length_append, List.length_cons, List.length_nil] at h1 ⊢; omega⟩
        clear KW hI4 hb4 H3
        have g29 := keep_cell HS51.out.2.1 HD.out.2.2.2.2.2.2.1
        have g30 := keep_cell HS51.out.2.1 HD.out.2.2.2.2.2.2.2
        go_upto_region 10 with fail
        have K92 : Hid (∀ v w', SlN w' v [10, S5, 18, S6, 11, 16, 19, 8] → Calls Tryz.prog 92 #[v] w' fun e w'' => e = .returned (.string ⟨(wds [10, S5, 18, S6, 11, 16, 19, 8]).toArray⟩) ∧ Below w'.heap.size w' w'') := fun v w' hv => words92 [10, S5, 18, S6, 11, 16, 19, 8] (by simp) v w' (by intro x hx; have hb := HBD.out; have hc := HIX.out; simp at hx; omega) hv
        refine wp_region_cut (R := Ext) [⟨54, fun v _ => v = .pointer (some ⟨b, 0, none⟩), fun _ _ _ _ h => h⟩, ⟨55, fun v _ => v = .pointer (some ⟨b, 0, none⟩), fun _ _ _ _ h => h⟩, ⟨56, fun v _ => v = .pointer (some ⟨b, 24, none⟩), fun _ _ _ _ h => h⟩, ⟨57, fun v _ => v = .pointer (some ⟨b, 29, none⟩), fun _ _ _ _ h => h⟩, ⟨58, fun v _ => v = .int .u32 (S5 : Int), fun _ _ _ _ h => h⟩, ⟨59, fun v _ => v = .pointer (some ⟨b, 0, none⟩), fun _ _ _ _ h => h⟩, ⟨60, fun v _ => v = .pointer (some ⟨b, 0, none⟩), fun _ _ _ _ h => h⟩, ⟨61, fun v _ => v = .pointer (some ⟨b, 24, none⟩), fun _ _ _ _ h => h⟩, ⟨62, fun v _ => v = .pointer (some ⟨b, 30, none⟩), fun _ _ _ _ h => h⟩, ⟨63, fun v _ => v = .int .u32 (S6 : Int), fun _ _ _ _ h => h⟩, ⟨64, fun v W => SlN W v [10, S5, 18, S6, 11, 16, 19, 8], fun v A C hb h => h.keep hb⟩, ⟨65, fun v _ => v = .string ⟨(wds [10, S5, 18, S6, 11, 16, 19, 8]).toArray⟩, fun _ _ _ _ h => h⟩] _ 12 (by kernel_rfl) rfl (by kernel_rfl) (by decide) (by kernel_rfl) (Below.drew (Below.refl _ _)) (fun _ _ _ h1 h2 => below_tr h1 h2) (fun QQ => ⟨?_, ?_, ?_, ?_, ?_, ?_, ?_, ?_, ?_, ?_, ?_, ?_, trivial⟩) (fun f wy hR hf A hA => ?_)
        · intro A wx hR hout hdep K hK
          have h0 : A.tmps[0]?.getD undef = .pointer (some ⟨b, 0, none⟩) := hout 0 (by kernel_rfl)
          refine if_yes (by kernel_rfl) ?_
          simp [go_sem, h0]
          exact hK.out _ _ (Below.refl _ _) rfl
        · intro A wx hR hout hdep K hK
          have h54 : A.tmps[54]?.getD undef = .pointer (some ⟨b, 0, none⟩) := hdep 54 (by kernel_rfl)
          refine if_yes (by kernel_rfl) ?_
          simp [go_sem, h54]
          exact hK.out _ _ (Below.refl _ _) rfl
        · intro A wx hR hout hdep K hK
          have h55 : A.tmps[55]?.getD undef = .pointer (some ⟨b, 0, none⟩) := hdep 55 (by kernel_rfl)
          refine if_yes (by kernel_rfl) ?_
          simp [go_sem, h55]
          exact hK.out _ _ (Below.refl _ _) rfl
        · intro A wx hR hout hdep K hK
          have h56 : A.tmps[56]?.getD undef = .pointer (some ⟨b, 24, none⟩) := hdep 56 (by kernel_rfl)
          refine if_yes (by kernel_rfl) ?_
          simp [go_sem, h56]
          exact hK.out _ _ (Below.refl _ _) rfl
        · intro A wx hR hout hdep K hK
          have h57 : A.tmps[57]?.getD undef = .pointer (some ⟨b, 29, none⟩) := hdep 57 (by kernel_rfl)
          refine if_yes (by kernel_rfl) ?_
          have g29 := keep_cell hR g29
          have g30 := keep_cell hR g30
          simp [go_sem, h57, g29, g30]
          exact hK.out _ _ (Below.refl _ _) rfl
        · intro A wx hR hout hdep K hK
          have h0 : A.tmps[0]?.getD undef = .pointer (some ⟨b, 0, none⟩) := hout 0 (by kernel_rfl)
          refine if_yes (by kernel_rfl) ?_
          simp [go_sem, h0]
          exact hK.out _ _ (Below.refl _ _) rfl
        · intro A wx hR hout hdep K hK
          have h59 : A.tmps[59]?.getD undef = .pointer (some ⟨b, 0, none⟩) := hdep 59 (by kernel_rfl)
          refine if_yes (by kernel_rfl) ?_
          simp [go_sem, h59]
          exact hK.out _ _ (Below.refl _ _) rfl
        · intro A wx hR hout hdep K hK
          have h60 : A.tmps[60]?.getD undef = .pointer (some ⟨b, 0, none⟩) := hdep 60 (by kernel_rfl)
          refine if_yes (by kernel_rfl) ?_
          simp [go_sem, h60]
          exact hK.out _ _ (Below.refl _ _) rfl
        · intro A wx hR hout hdep K hK
          have h61 : A.tmps[61]?.getD undef = .pointer (some ⟨b, 24, none⟩) := hdep 61 (by kernel_rfl)
          refine if_yes (by kernel_rfl) ?_
          simp [go_sem, h61]
          exact hK.out _ _ (Below.refl _ _) rfl
        · intro A wx hR hout hdep K hK
          have h62 : A.tmps[62]?.getD undef = .pointer (some ⟨b, 30, none⟩) := hdep 62 (by kernel_rfl)
          refine if_yes (by kernel_rfl) ?_
          have g29 := keep_cell hR g29
          have g30 := keep_cell hR g30
          simp [go_sem, h62, g29, g30]
          exact hK.out _ _ (Below.refl _ _) rfl
        · intro A wx hR hout hdep K hK
          have h58 : A.tmps[58]?.getD undef = .int .u32 (S5 : Int) := hdep 58 (by kernel_rfl)
          have h63 : A.tmps[63]?.getD undef = .int .u32 (S6 : Int) := hdep 63 (by kernel_rfl)
          refine if_yes (by kernel_rfl) ?_
          simp [go_sem, h58, h63]
          exact hK.out _ _ ((Below.refl _ _).alloc (Nat.le_refl _) _) (SlN.new _ [10, S5, 18, S6, 11, 16, 19, 8] _ rfl 8 rfl (by simp))
        · intro A wx hR hout hdep K hK
          have h64 := hdep 64 (by kernel_rfl)
          refine if_yes (by kernel_rfl) ?_
          obtain ⟨v28, hv28⟩ : ∃ v, v = A.tmps[64]?.getD undef := ⟨_, rfl⟩
          rw [← hv28] at h64
          have hv28 := hv28.symm
          simp [go_sem, hv28]
          refine (K92.out v28 _ h64).mono ?_
          rintro e w6 ⟨rfl, hb6⟩
          exact hK.out _ _ hb6 rfl
        have h54 : f 54 = .pointer (some ⟨b, 0, none⟩) := hf 54 (by kernel_rfl)
        have h55 : f 55 = .pointer (some ⟨b, 0, none⟩) := hf 55 (by kernel_rfl)
        have h56 : f 56 = .pointer (some ⟨b, 24, none⟩) := hf 56 (by kernel_rfl)
        have h57 : f 57 = .pointer (some ⟨b, 29, none⟩) := hf 57 (by kernel_rfl)
        have h58 : f 58 = .int .u32 (S5 : Int) := hf 58 (by kernel_rfl)
        have h59 : f 59 = .pointer (some ⟨b, 0, none⟩) := hf 59 (by kernel_rfl)
        have h60 : f 60 = .pointer (some ⟨b, 0, none⟩) := hf 60 (by kernel_rfl)
        have h61 : f 61 = .pointer (some ⟨b, 24, none⟩) := hf 61 (by kernel_rfl)
        have h62 : f 62 = .pointer (some ⟨b, 30, none⟩) := hf 62 (by kernel_rfl)
        have h63 : f 63 = .int .u32 (S6 : Int) := hf 63 (by kernel_rfl)
        have h65 : f 65 = .string ⟨(wds [10, S5, 18, S6, 11, 16, 19, 8]).toArray⟩ := hf 65 (by kernel_rfl)
        have h64 := hf 64 (by kernel_rfl)
        obtain ⟨v28, hv28⟩ : ∃ v, v = f 64 := ⟨_, rfl⟩
        rw [← hv28] at h64
        have hv28 := hv28.symm
        simp only [putSl, List.take_succ_cons, List.take_zero, Act.put, List.setIfInBounds_toArray, List.set_cons_zero, List.set_cons_succ, h54, h55, h56, h57, h58, h59, h60, h61, h62, h63, h65, hv28] at hA
        subst hA
        have H3 : Hid (Below w.heap.size w wy) := below_tr HS51.out.2.1 hR
        have H3i : Hid (IsB w.heap.size w.heap.size (wds (((needW ps k) ++ [14, X]) ++ [4, A3, 5, A5, 6, A4, 17, A6])) wy) := isB_keep HS51.out.1 hR
        clear h54 h55 h56 h57 h58 h59 h60 h61 h62 h63 h65 h64 hv28 hf hR K92 g29 g30
        generalize wy = wz56 at H3 H3i ⊢
        have KW := wrW w.heap.size (((needW ps k) ++ [14, X]) ++ [4, A3, 5, A5, 6, A4, 17, A6]) [10, S5, 18, S6, 11, 16, 19, 8] wz56 H3i.out (by have := HS51.out.2.2; omega) (by simp) H3.out.size
        refine wpAny_ready (rs := [12]) (by kernel_rfl) (by decide) (AllReady.cons rfl ?_ AllReady.nil)
        intro K5 hK5
        refine if_yes (by kernel_rfl) ?_
        simp [go_sem]
        refine (KW).mono ?_
        rintro e wd55 ⟨rfl, hI4, hb4⟩
        refine hK5 _ _ ?_
        refine wpAny_done (by kernel_rfl) ?_ _
        clear hK5 K5
        clear H3i
        have HS54 : Hid (IsB w.heap.size w.heap.size (wds ((((needW ps k) ++ [14, X]) ++ [4, A3, 5, A5, 6, A4, 17, A6]) ++ [10, S5, 18, S6, 11, 16, 19, 8])) wd55 ∧ Below w.heap.size w wd55 ∧ ((((needW ps k) ++ [14, X]) ++ [4, A3, 5, A5, 6, A4, 17, A6]) ++ [10, S5, 18, S6, 11, 16, 19, 8]).length ≤ 34) := ⟨hI4, H3.out.trans (hb4.mono (Nat.le_refl _)), by have h1 := HS51.out.2.2; simp only [List.length_append, List.length_cons, List.length_nil] at h1 ⊢; omega⟩
        clear KW hI4 hb4 H3
        have g13 := keep_cell HS54.out.2.1 HD.out.2.2.2.2.2.1
        by_cases hin : IN = 0
        · have g13z : (IN : Int) = 0 := by omega
          have g13d : (decide ((0 : Int) < (IN : Int))) = false := decide_eq_false (by omega)
          have g13n : ¬ (0 : Int) < (IN : Int) := by omega
          go_upto_region 13 with fail
          clear g13 g13z g13d g13n
          have e9 := keep_cell HS54.out.2.1 HD.out.2.2.1
          have ec1 : (NS : Int) + 1 = (CN : Int) := by have := HIX.out; omega
          have ec3 : IntKind.i64.wrap (CN : Int) = (CN : Int) := by rw [IntKind.wrap_i64]; have := HIX.out; have := HBD.out; omega
          have ec4 : (CN : Int) % 4294967296 = (CN : Int) := by have := HIX.out; have := HBD.out; omega
          have ec4' : IntKind.u32.wrap (CN : Int) = (CN : Int) := by rw [IntKind.wrap_u32]; exact ec4
          have ec2 := wrap64_nat CN (by have := HIX.out; have := HBD.out; omega)
          go_upto_region 14 with fail
          clear e9 ec1 ec2 ec3 ec4 ec4'
          have e11 := keep_cell HS54.out.2.1 HD.out.2.2.2.1
          have e12 := keep_cell HS54.out.2.1 HD.out.2.2.2.2.1
          have f1 : (2 : Int) + (NL : Int) = (OW : Int) := by have := HIX.out; omega
          have f3 : IntKind.i64.wrap (OW : Int) = (OW : Int) := by rw [IntKind.wrap_i64]; have := HIX.out; have := HBD.out; omega
          have f4 : (OW : Int) % 4294967296 = (OW : Int) := by have := HIX.out; have := HBD.out; omega
          have f4' : IntKind.u32.wrap (OW : Int) = (OW : Int) := by rw [IntKind.wrap_u32]; exact f4
          have f5 : (GL : Int) % 4294967296 = (GL : Int) := by have := HBD.out; omega
          have f5' : IntKind.u32.wrap (GL : Int) = (GL : Int) := by rw [IntKind.wrap_u32]; exact f5
          have f6 : (CN : Int) - (GL : Int) = (FI : Int) := by have := HIX.out; have := HBD.out; omega
          have f7 : (FI : Int) % 4294967296 = (FI : Int) := by have := HIX.out; have := HBD.out; omega
          have f7' : IntKind.u32.wrap (FI : Int) = (FI : Int) := by rw [IntKind.wrap_u32]; exact f7
          have K92 : Hid (∀ v w', SlN w' v [3, A8, 1879048202, OW, 1879048209, CN, 1879048211, FI] → Calls Tryz.prog 92 #[v] w' fun e w'' => e = .returned (.string ⟨(wds [3, A8, 1879048202, OW, 1879048209, CN, 1879048211, FI]).toArray⟩) ∧ Below w'.heap.size w' w'') := fun v w' hv => words92 [3, A8, 1879048202, OW, 1879048209, CN, 1879048211, FI] (by simp) v w' (by intro x hx; have hb := HBD.out; have hc := HIX.out; simp at hx; omega) hv
          have f2 := wrap64_nat OW (by have := HIX.out; have := HBD.out; omega)
          refine wp_region_cut (R := Ext) [⟨93, fun v _ => v = .pointer (some ⟨b, 0, none⟩), fun _ _ _ _ h => h⟩, ⟨94, fun v _ => v = .int .u32 (A8 : Int), fun _ _ _ _ h => h⟩, ⟨95, fun v _ => v = .pointer (some ⟨b, 0, none⟩), fun _ _ _ _ h => h⟩, ⟨96, fun v _ => v = .pointer (some ⟨b, 0, none⟩), fun _ _ _ _ h => h⟩, ⟨97, fun v _ => v = .pointer (some ⟨b, 0, none⟩), fun _ _ _ _ h => h⟩, ⟨98, fun v _ => v = .pointer (some ⟨b, 11, none⟩), fun _ _ _ _ h => h⟩, ⟨99, fun v _ => v = .slice la NL lc, fun _ _ _ _ h => h⟩, ⟨100, fun v _ => v = .int .i64 (NL : Int), fun _ _ _ _ h => h⟩, ⟨101, fun v _ => v = .int .i64 (OW : Int), fun _ _ _ _ h => h⟩, ⟨102, fun v _ => v = .int .u32 (OW : Int), fun _ _ _ _ h => h⟩, ⟨103, fun v _ => v = .int .u32 (CN : Int), fun _ _ _ _ h => h⟩, ⟨104, fun v _ => v = .int .u32 (CN : Int), fun _ _ _ _ h => h⟩, ⟨105, fun v _ => v = .pointer (some ⟨b, 0, none⟩), fun _ _ _ _ h => h⟩, ⟨106, fun v _ => v = .pointer (some ⟨b, 0, none⟩), fun _ _ _ _ h => h⟩, ⟨107, fun v _ => v = .pointer (some ⟨b, 0, none⟩), fun _ _ _ _ h => h⟩, ⟨108, fun v _ => v = .pointer (some ⟨b, 12, none⟩), fun _ _ _ _ h => h⟩, ⟨109, fun v _ => v = .int .i64 (GL : Int), fun _ _ _ _ h => h⟩, ⟨110, fun v _ => v = .int .u32 (GL : Int), fun _ _ _ _ h => h⟩, ⟨111, fun v _ => v = .int .u32 (FI : Int), fun _ _ _ _ h => h⟩, ⟨112, fun v W => SlN W v [3, A8, 1879048202, OW, 1879048209, CN, 1879048211, FI], fun v A C hb h => h.keep hb⟩, ⟨113, fun v _ => v = .string ⟨(wds [3, A8, 1879048202, OW, 1879048209, CN, 1879048211, FI]).toArray⟩, fun _ _ _ _ h => h⟩] _ 21 (by kernel_rfl) rfl (by kernel_rfl) (by decide) (by kernel_rfl) (Below.drew (Below.refl _ _)) (fun _ _ _ h1 h2 => below_tr h1 h2) (fun QQ => ⟨?_, ?_, ?_, ?_, ?_, ?_, ?_, ?_, ?_, ?_, ?_, ?_, ?_, ?_, ?_, ?_, ?_, ?_, ?_, ?_, ?_, trivial⟩) (fun f wy hR hf A hA => ?_)
          · intro A wx hR hout hdep K hK
            have h0 : A.tmps[0]?.getD undef = .pointer (some ⟨b, 0, none⟩) := hout 0 (by kernel_rfl)
            refine if_yes (by kernel_rfl) ?_
            simp [go_sem, h0, f1, f2, f3, f4, f4', f5, f5', f6, f7, f7']
            exact hK.out _ _ (Below.refl _ _) rfl
          · intro A wx hR hout hdep K hK
            have h93 : A.tmps[93]?.getD undef = .pointer (some ⟨b, 0, none⟩) := hdep 93 (by kernel_rfl)
            refine if_yes (by kernel_rfl) ?_
            simp [go_sem, h93, f1, f2, f3, f4, f4', f5, f5', f6, f7, f7']
            refine (K8.out _ (below_tr HS54.out.2.1 hR)).mono ?_
            rintro e w6 ⟨rfl, hb6⟩
            exact hK.out _ _ hb6 rfl
          · intro A wx hR hout hdep K hK
            have h0 : A.tmps[0]?.getD undef = .pointer (some ⟨b, 0, none⟩) := hout 0 (by kernel_rfl)
            refine if_yes (by kernel_rfl) ?_
            simp [go_sem, h0, f1, f2, f3, f4, f4', f5, f5', f6, f7, f7']
            exact hK.out _ _ (Below.refl _ _) rfl
          · intro A wx hR hout hdep K hK
            have h95 : A.tmps[95]?.getD undef = .pointer (some ⟨b, 0, none⟩) := hdep 95 (by kernel_rfl)
            refine if_yes (by kernel_rfl) ?_
            simp [go_sem, h95, f1, f2, f3, f4, f4', f5, f5', f6, f7, f7']
            exact hK.out _ _ (Below.refl _ _) rfl
          · intro A wx hR hout hdep K hK
            have h96 : A.tmps[96]?.getD undef = .pointer (some ⟨b, 0, none⟩) := hdep 96 (by kernel_rfl)
            refine if_yes (by kernel_rfl) ?_
            simp [go_sem, h96, f1, f2, f3, f4, f4', f5, f5', f6, f7, f7']
            exact hK.out _ _ (Below.refl _ _) rfl
          · intro A wx hR hout hdep K hK
            have h97 : A.tmps[97]?.getD undef = .pointer (some ⟨b, 0, none⟩) := hdep 97 (by kernel_rfl)
            refine if_yes (by kernel_rfl) ?_
            simp [go_sem, h97, f1, f2, f3, f4, f4', f5, f5', f6, f7, f7']
            exact hK.out _ _ (Below.refl _ _) rfl
          · intro A wx hR hout hdep K hK
            have h98 : A.tmps[98]?.getD undef = .pointer (some ⟨b, 11, none⟩) := hdep 98 (by kernel_rfl)
            refine if_yes (by kernel_rfl) ?_
            have e11 := keep_cell hR e11
            have e12 := keep_cell hR e12
            simp [go_sem, h98, e11, e12, f1, f2, f3, f4, f4', f5, f5', f6, f7, f7']
            exact hK.out _ _ (Below.refl _ _) rfl
          · intro A wx hR hout hdep K hK
            have h99 : A.tmps[99]?.getD undef = .slice la NL lc := hdep 99 (by kernel_rfl)
            refine if_yes (by kernel_rfl) ?_
            simp [go_sem, h99, f1, f2, f3, f4, f4', f5, f5', f6, f7, f7']
            exact hK.out _ _ (Below.refl _ _) rfl
          · intro A wx hR hout hdep K hK
            have h100 : A.tmps[100]?.getD undef = .int .i64 (NL : Int) := hdep 100 (by kernel_rfl)
            refine if_yes (by kernel_rfl) ?_
            simp [go_sem, h100, f1, f2, f3, f4, f4', f5, f5', f6, f7, f7']
            exact hK.out _ _ (Below.refl _ _) rfl
          · intro A wx hR hout hdep K hK
            have h101 : A.tmps[101]?.getD undef = .int .i64 (OW : Int) := hdep 101 (by kernel_rfl)
            refine if_yes (by kernel_rfl) ?_
            simp [go_sem, h101, f1, f2, f3, f4, f4', f5, f5', f6, f7, f7']
            exact hK.out _ _ (Below.refl _ _) rfl
          · intro A wx hR hout hdep K hK
            have h7 : A.tmps[7]?.getD undef = .int .u32 (CN : Int) := hout 7 (by kernel_rfl)
            refine if_yes (by kernel_rfl) ?_
            simp [go_sem, h7, f1, f2, f3, f4, f4', f5, f5', f6, f7, f7']
            exact hK.out _ _ (Below.refl _ _) rfl
          · intro A wx hR hout hdep K hK
            have h7 : A.tmps[7]?.getD undef = .int .u32 (CN : Int) := hout 7 (by kernel_rfl)
            refine if_yes (by kernel_rfl) ?_
            simp [go_sem, h7, f1, f2, f3, f4, f4', f5, f5', f6, f7, f7']
            exact hK.out _ _ (Below.refl _ _) rfl
          · intro A wx hR hout hdep K hK
            have h0 : A.tmps[0]?.getD undef = .pointer (some ⟨b, 0, none⟩) := hout 0 (by kernel_rfl)
            refine if_yes (by kernel_rfl) ?_
            simp [go_sem, h0, f1, f2, f3, f4, f4', f5, f5', f6, f7, f7']
            exact hK.out _ _ (Below.refl _ _) rfl
          · intro A wx hR hout hdep K hK
            have h105 : A.tmps[105]?.getD undef = .pointer (some ⟨b, 0, none⟩) := hdep 105 (by kernel_rfl)
            refine if_yes (by kernel_rfl) ?_
            simp [go_sem, h105, f1, f2, f3, f4, f4', f5, f5', f6, f7, f7']
            exact hK.out _ _ (Below.refl _ _) rfl
          · intro A wx hR hout hdep K hK
            have h106 : A.tmps[106]?.getD undef = .pointer (some ⟨b, 0, none⟩) := hdep 106 (by kernel_rfl)
            refine if_yes (by kernel_rfl) ?_
            simp [go_sem, h106, f1, f2, f3, f4, f4', f5, f5', f6, f7, f7']
            exact hK.out _ _ (Below.refl _ _) rfl
          · intro A wx hR hout hdep K hK
            have h107 : A.tmps[107]?.getD undef = .pointer (some ⟨b, 0, none⟩) := hdep 107 (by kernel_rfl)
            refine if_yes (by kernel_rfl) ?_
            simp [go_sem, h107, f1, f2, f3, f4, f4', f5, f5', f6, f7, f7']
            exact hK.out _ _ (Below.refl _ _) rfl
          · intro A wx hR hout hdep K hK
            have h108 : A.tmps[108]?.getD undef = .pointer (some ⟨b, 12, none⟩) := hdep 108 (by kernel_rfl)
            refine if_yes (by kernel_rfl) ?_
            have e11 := keep_cell hR e11
            have e12 := keep_cell hR e12
            simp [go_sem, h108, e11, e12, f1, f2, f3, f4, f4', f5, f5', f6, f7, f7']
            exact hK.out _ _ (Below.refl _ _) rfl
          · intro A wx hR hout hdep K hK
            have h109 : A.tmps[109]?.getD undef = .int .i64 (GL : Int) := hdep 109 (by kernel_rfl)
            refine if_yes (by kernel_rfl) ?_
            simp [go_sem, h109, f1, f2, f3, f4, f4', f5, f5', f6, f7, f7']
            exact hK.out _ _ (Below.refl _ _) rfl
          · intro A wx hR hout hdep K hK
            have h104 : A.tmps[104]?.getD undef = .int .u32 (CN : Int) := hdep 104 (by kernel_rfl)
            have h110 : A.tmps[110]?.getD undef = .int .u32 (GL : Int) := hdep 110 (by kernel_rfl)
            refine if_yes (by kernel_rfl) ?_
            simp [go_sem, h104, h110, f1, f2, f3, f4, f4', f5, f5', f6, f7, f7']
            exact hK.out _ _ (Below.refl _ _) rfl
          · intro A wx hR hout hdep K hK
            have h94 : A.tmps[94]?.getD undef = .int .u32 (A8 : Int) := hdep 94 (by kernel_rfl)
            have h102 : A.tmps[102]?.getD undef = .int .u32 (OW : Int) := hdep 102 (by kernel_rfl)
            have h103 : A.tmps[103]?.getD undef = .int .u32 (CN : Int) := hdep 103 (by kernel_rfl)
            have h111 : A.tmps[111]?.getD undef = .int .u32 (FI : Int) := hdep 111 (by kernel_rfl)
            refine if_yes (by kernel_rfl) ?_
            simp [go_sem, h94, h102, h103, h111, f1, f2, f3, f4, f4', f5, f5', f6, f7, f7']
            exact hK.out _ _ ((Below.refl _ _).alloc (Nat.le_refl _) _) (SlN.new _ [3, A8, 1879048202, OW, 1879048209, CN, 1879048211, FI] _ rfl 8 rfl (by simp))
          · intro A wx hR hout hdep K hK
            have h112 := hdep 112 (by kernel_rfl)
            refine if_yes (by kernel_rfl) ?_
            obtain ⟨v28, hv28⟩ : ∃ v, v = A.tmps[112]?.getD undef := ⟨_, rfl⟩
            rw [← hv28] at h112
            have hv28 := hv28.symm
            simp [go_sem, hv28]
            refine (K92.out v28 _ h112).mono ?_
            rintro e w6 ⟨rfl, hb6⟩
            exact hK.out _ _ hb6 rfl
          have h93 : f 93 = .pointer (some ⟨b, 0, none⟩) := hf 93 (by kernel_rfl)
          have h94 : f 94 = .int .u32 (A8 : Int) := hf 94 (by kernel_rfl)
          have h95 : f 95 = .pointer (some ⟨b, 0, none⟩) := hf 95 (by kernel_rfl)
          have h96 : f 96 = .pointer (some ⟨b, 0, none⟩) := hf 96 (by kernel_rfl)
          have h97 : f 97 = .pointer (some ⟨b, 0, none⟩) := hf 97 (by kernel_rfl)
          have h98 : f 98 = .pointer (some ⟨b, 11, none⟩) := hf 98 (by kernel_rfl)
          have h99 : f 99 = .slice la NL lc := hf 99 (by kernel_rfl)
          have h100 : f 100 = .int .i64 (NL : Int) := hf 100 (by kernel_rfl)
          have h101 : f 101 = .int .i64 (OW : Int) := hf 101 (by kernel_rfl)
          have h102 : f 102 = .int .u32 (OW : Int) := hf 102 (by kernel_rfl)
          have h103 : f 103 = .int .u32 (CN : Int) := hf 103 (by kernel_rfl)
          have h104 : f 104 = .int .u32 (CN : Int) := hf 104 (by kernel_rfl)
          have h105 : f 105 = .pointer (some ⟨b, 0, none⟩) := hf 105 (by kernel_rfl)
          have h106 : f 106 = .pointer (some ⟨b, 0, none⟩) := hf 106 (by kernel_rfl)
          have h107 : f 107 = .pointer (some ⟨b, 0, none⟩) := hf 107 (by kernel_rfl)
          have h108 : f 108 = .pointer (some ⟨b, 12, none⟩) := hf 108 (by kernel_rfl)
          have h109 : f 109 = .int .i64 (GL : Int) := hf 109 (by kernel_rfl)
          have h110 : f 110 = .int .u32 (GL : Int) := hf 110 (by kernel_rfl)
          have h111 : f 111 = .int .u32 (FI : Int) := hf 111 (by kernel_rfl)
          have h113 : f 113 = .string ⟨(wds [3, A8, 1879048202, OW, 1879048209, CN, 1879048211, FI]).toArray⟩ := hf 113 (by kernel_rfl)
          have h112 := hf 112 (by kernel_rfl)
          obtain ⟨v28, hv28⟩ : ∃ v, v = f 112 := ⟨_, rfl⟩
          rw [← hv28] at h112
          have hv28 := hv28.symm
          simp only [putSl, List.take_succ_cons, List.take_zero, Act.put, List.setIfInBounds_toArray, List.set_cons_zero, List.set_cons_succ, h93, h94, h95, h96, h97, h98, h99, h100, h101, h102, h103, h104, h105, h106, h107, h108, h109, h110, h111, h113, hv28] at hA
          subst hA
          have H3 : Hid (Below w.heap.size w wy) := below_tr HS54.out.2.1 hR
          have H3i : Hid (IsB w.heap.size w.heap.size (wds ((((needW ps k) ++ [14, X]) ++ [4, A3, 5, A5, 6, A4, 17, A6]) ++ [10, S5, 18, S6, 11, 16, 19, 8])) wy) := isB_keep HS54.out.1 hR
          clear h93 h94 h95 h96 h97 h98 h99 h100 h101 h102 h103 h104 h105 h106 h107 h108 h109 h110 h111 h113 h112 hv28 hf hR K92 e11 e12 f1 f2 f3 f4 f4' f5 f5' f6 f7 f7'
          generalize wy = wz59 at H3 H3i ⊢
          have KW := wrW w.heap.size ((((needW ps k) ++ [14, X]) ++ [4, A3, 5, A5, 6, A4, 17, A6]) ++ [10, S5, 18, S6, 11, 16, 19, 8]) [3, A8, 1879048202, OW, 1879048209, CN, 1879048211, FI] wz59 H3i.out (by have := HS54.out.2.2; omega) (by simp) H3.out.size
          refine wpAny_ready (rs := [21]) (by kernel_rfl) (by decide) (AllReady.cons rfl ?_ AllReady.nil)
          intro K5 hK5
          refine if_yes (by kernel_rfl) ?_
          simp [go_sem]
          refine (KW).mono ?_
          rintro e wd58 ⟨rfl, hI4, hb4⟩
          refine hK5 _ _ ?_
          refine wpAny_done (by kernel_rfl) ?_ _
          clear hK5 K5
          clear H3i
          have HS57 : Hid (IsB w.heap.size w.heap.size (wds (((((needW ps k) ++ [14, X]) ++ [4, A3, 5, A5, 6, A4, 17, A6]) ++ [10, S5, 18, S6, 11, 16, 19, 8]) ++ [3, A8, 1879048202, OW, 1879048209, CN, 1879048211, FI])) wd58 ∧ Below w.heap.size w wd58 ∧ (((((needW ps k) ++ [14, X]) ++ [4, A3, 5, A5, 6, A4, 17, A6]) ++ [10, S5, 18, S6, 11, 16, 19, 8]) ++ [3, A8, 1879048202, OW, 1879048209, CN, 1879048211, FI]).length ≤ 42) := ⟨hI4, H3.out.trans (hb4.mono (Nat.le_refl _)), by have h1 := HS54.out.2.2; simp only [List.length_append, List.length_cons, List.length_nil] at h1 ⊢; omega⟩
          clear KW hI4 hb4 H3
          obtain ⟨wb60, hW2⟩ : ∃ z, wd58.alloc (.cells #[.int .u32 0, .int .u32 0] 22) = z := ⟨_, rfl⟩
          have hal : Below wd58.heap.size wd58 wb60 := by rw [← hW2]; exact (Below.refl _ _).alloc (Nat.le_refl _) _
          have HS61 : Hid (IsB w.heap.size w.heap.size (wds (((((needW ps k) ++ [14, X]) ++ [4, A3, 5, A5, 6, A4, 17, A6]) ++ [10, S5, 18, S6, 11, 16, 19, 8]) ++ [3, A8, 1879048202, OW, 1879048209, CN, 1879048211, FI])) wb60 ∧ Below w.heap.size w wb60) := ⟨isB_keep HS57.out.1 hal, below_tr HS57.out.2.1 hal⟩
          have K92 := words92 [0, 0] (by simp) (.slice (some ⟨wd58.heap.size, 0, none⟩) 2 2) wb60 (by intro x hx; have hb := HBD.out; have hc := HIX.out; simp at hx; omega) (by rw [← hW2]; exact SlN.new wd58 [0, 0] #[.int .u32 0, .int .u32 0] rfl 2 rfl (by simp))
          clear hal
          go_wp2_with fail
          refine K92.mono ?_
          rintro e wc63 ⟨rfl, hb3⟩
          have H3 : Hid (Below w.heap.size w wc63) := below_tr HS61.out.2 hb3
          have KW := wrW w.heap.size (((((needW ps k) ++ [14, X]) ++ [4, A3, 5, A5, 6, A4, 17, A6]) ++ [10, S5, 18, S6, 11, 16, 19, 8]) ++ [3, A8, 1879048202, OW, 1879048209, CN, 1879048211, FI]) [0, 0] wc63 (isB_keep HS61.out.1 hb3) (by have := HS57.out.2.2; omega) (by simp) (Nat.le_trans HS61.out.2.size hb3.size)
          clear K92 hW2 hb3
          go_wp2_with fail
          refine KW.mono ?_
          rintro e wd64 ⟨rfl, hI4, hb4⟩
          have HS62 : Hid (IsB w.heap.size w.heap.size (wds ((((((needW ps k) ++ [14, X]) ++ [4, A3, 5, A5, 6, A4, 17, A6]) ++ [10, S5, 18, S6, 11, 16, 19, 8]) ++ [3, A8, 1879048202, OW, 1879048209, CN, 1879048211, FI]) ++ [0, 0])) wd64 ∧ Below w.heap.size w wd64 ∧ ((((((needW ps k) ++ [14, X]) ++ [4, A3, 5, A5, 6, A4, 17, A6]) ++ [10, S5, 18, S6, 11, 16, 19, 8]) ++ [3, A8, 1879048202, OW, 1879048209, CN, 1879048211, FI]) ++ [0, 0]).length ≤ 44) := ⟨hI4, H3.out.trans (hb4.mono (Nat.le_refl _)), by have h1 := HS57.out.2.2; simp only [List.length_append, List.length_cons, List.length_nil] at h1 ⊢; omega⟩
          clear KW hI4 hb4 H3
          have KS := string43 w.heap.size w.heap.size _ wd64 HS62.out.1 HS62.out.2.1.size
          have HE : Hid (wds ((((((needW ps k) ++ [14, X]) ++ [4, A3, 5, A5, 6, A4, 17, A6]) ++ [10, S5, 18, S6, 11, 16, 19, 8]) ++ [3, A8, 1879048202, OW, 1879048209, CN, 1879048211, FI]) ++ [0, 0]) = wds (y.linkW ps)) := by show _ = _; rw [HLW.out]; rw [if_pos hin]; rw [if_neg hso, HX.out.1]; simp only [List.append_assoc, List.nil_append]
          have HF : Hid (Below w.heap.size w wd64) := HS62.out.2.1
          rw [HE.out] at KS
          clear HS62
          go_wp2_with fail
          refine KS.mono ?_
          rintro e w9 ⟨rfl, hb9⟩
          go_wp2
          go_ret
          exact ⟨rfl, HF.out.trans hb9⟩
        · have g13d : (decide ((0 : Int) < (IN : Int))) = true := decide_eq_true (by omega)
          have g13n : (0 : Int) < (IN : Int) := by omega
          go_upto_region 12 with fail
          have k1 : (A7 : Int) + (IN : Int) = (IX : Int) := by have := HIX.out; omega
          have k2 : (IX : Int) % 4294967296 = (IX : Int) := by have := HIX.out; have := HBD.out; omega
          have k2' : IntKind.u32.wrap (IX : Int) = (IX : Int) := by rw [IntKind.wrap_u32]; exact k2
          have k3 : (IX : Int) - 1 = (IY : Int) := by have := HIX.out; omega
          have k4 : (IY : Int) % 4294967296 = (IY : Int) := by have := HIX.out; have := HBD.out; omega
          have k4' : IntKind.u32.wrap (IY : Int) = (IY : Int) := by rw [IntKind.wrap_u32]; exact k4
          have K92 : Hid (∀ v w', SlN w' v [12, IY] → Calls Tryz.prog 92 #[v] w' fun e w'' => e = .returned (.string ⟨(wds [12, IY]).toArray⟩) ∧ Below w'.heap.size w' w'') := fun v w' hv => words92 [12, IY] (by simp) v w' (by intro x hx; have hb := HBD.out; have hc := HIX.out; simp at hx; omega) hv
          refine wp_region_cut (R := Ext) [⟨73, fun v _ => v = .pointer (some ⟨b, 0, none⟩), fun _ _ _ _ h => h⟩, ⟨74, fun v _ => v = .int .u32 (A7 : Int), fun _ _ _ _ h => h⟩, ⟨75, fun v _ => v = .pointer (some ⟨b, 0, none⟩), fun _ _ _ _ h => h⟩, ⟨76, fun v _ => v = .pointer (some ⟨b, 0, none⟩), fun _ _ _ _ h => h⟩, ⟨77, fun v _ => v = .pointer (some ⟨b, 0, none⟩), fun _ _ _ _ h => h⟩, ⟨78, fun v _ => v = .pointer (some ⟨b, 13, none⟩), fun _ _ _ _ h => h⟩, ⟨79, fun v _ => v = .int .u32 (IN : Int), fun _ _ _ _ h => h⟩, ⟨80, fun v _ => v = .int .u32 (IX : Int), fun _ _ _ _ h => h⟩, ⟨81, fun v _ => v = .int .u32 (IY : Int), fun _ _ _ _ h => h⟩, ⟨82, fun v W => SlN W v [12, IY], fun v A C hb h => h.keep hb⟩, ⟨83, fun v _ => v = .string ⟨(wds [12, IY]).toArray⟩, fun _ _ _ _ h => h⟩] _ 11 (by kernel_rfl) rfl (by kernel_rfl) (by decide) (by kernel_rfl) (Below.drew (Below.refl _ _)) (fun _ _ _ h1 h2 => below_tr h1 h2) (fun QQ => ⟨?_, ?_, ?_, ?_, ?_, ?_, ?_, ?_, ?_, ?_, ?_, trivial⟩) (fun f wy hR hf A hA => ?_)
          · intro A wx hR hout hdep K hK
            have h0 : A.tmps[0]?.getD undef = .pointer (some ⟨b, 0, none⟩) := hout 0 (by kernel_rfl)
            refine if_yes (by kernel_rfl) ?_
            simp [go_sem, h0, k1, k2, k2', k3, k4, k4']
            exact hK.out _ _ (Below.refl _ _) rfl
          · intro A wx hR hout hdep K hK
            have h73 : A.tmps[73]?.getD undef = .pointer (some ⟨b, 0, none⟩) := hdep 73 (by kernel_rfl)
            refine if_yes (by kernel_rfl) ?_
            simp [go_sem, h73, k1, k2, k2', k3, k4, k4']
            refine (K7.out _ (below_tr HS54.out.2.1 hR)).mono ?_
            rintro e w6 ⟨rfl, hb6⟩
            exact hK.out _ _ hb6 rfl
          · intro A wx hR hout hdep K hK
            have h0 : A.tmps[0]?.getD undef = .pointer (some ⟨b, 0, none⟩) := hout 0 (by kernel_rfl)
            refine if_yes (by kernel_rfl) ?_
            simp [go_sem, h0, k1, k2, k2', k3, k4, k4']
            exact hK.out _ _ (Below.refl _ _) rfl
          · intro A wx hR hout hdep K hK
            have h75 : A.tmps[75]?.getD undef = .pointer (some ⟨b, 0, none⟩) := hdep 75 (by kernel_rfl)
            refine if_yes (by kernel_rfl) ?_
            simp [go_sem, h75, k1, k2, k2', k3, k4, k4']
            exact hK.out _ _ (Below.refl _ _) rfl
          · intro A wx hR hout hdep K hK
            have h76 : A.tmps[76]?.getD undef = .pointer (some ⟨b, 0, none⟩) := hdep 76 (by kernel_rfl)
            refine if_yes (by kernel_rfl) ?_
            simp [go_sem, h76, k1, k2, k2', k3, k4, k4']
            exact hK.out _ _ (Below.refl _ _) rfl
          · intro A wx hR hout hdep K hK
            have h77 : A.tmps[77]?.getD undef = .pointer (some ⟨b, 0, none⟩) := hdep 77 (by kernel_rfl)
            refine if_yes (by kernel_rfl) ?_
            simp [go_sem, h77, k1, k2, k2', k3, k4, k4']
            exact hK.out _ _ (Below.refl _ _) rfl
          · intro A wx hR hout hdep K hK
            have h78 : A.tmps[78]?.getD undef = .pointer (some ⟨b, 13, none⟩) := hdep 78 (by kernel_rfl)
            refine if_yes (by kernel_rfl) ?_
            have g13 := keep_cell hR g13
            simp [go_sem, h78, g13, k1, k2, k2', k3, k4, k4']
            exact hK.out _ _ (Below.refl _ _) rfl
          · intro A wx hR hout hdep K hK
            have h74 : A.tmps[74]?.getD undef = .int .u32 (A7 : Int) := hdep 74 (by kernel_rfl)
            have h79 : A.tmps[79]?.getD undef = .int .u32 (IN : Int) := hdep 79 (by kernel_rfl)
            refine if_yes (by kernel_rfl) ?_
            simp [go_sem, h74, h79, k1, k2, k2', k3, k4, k4']
            exact hK.out _ _ (Below.refl _ _) rfl
          · intro A wx hR hout hdep K hK
            have h80 : A.tmps[80]?.getD undef = .int .u32 (IX : Int) := hdep 80 (by kernel_rfl)
            refine if_yes (by kernel_rfl) ?_
            simp [go_sem, h80, k1, k2, k2', k3, k4, k4']
            exact hK.out _ _ (Below.refl _ _) rfl
          · intro A wx hR hout hdep K hK
            have h81 : A.tmps[81]?.getD undef = .int .u32 (IY : Int) := hdep 81 (by kernel_rfl)
            refine if_yes (by kernel_rfl) ?_
            simp [go_sem, h81, k1, k2, k2', k3, k4, k4']
            exact hK.out _ _ ((Below.refl _ _).alloc (Nat.le_refl _) _) (SlN.new _ [12, IY] _ rfl 2 rfl (by simp))
          · intro A wx hR hout hdep K hK
            have h82 := hdep 82 (by kernel_rfl)
            refine if_yes (by kernel_rfl) ?_
            obtain ⟨v28, hv28⟩ : ∃ v, v = A.tmps[82]?.getD undef := ⟨_, rfl⟩
            rw [← hv28] at h82
            have hv28 := hv28.symm
            simp [go_sem, hv28]
            refine (K92.out v28 _ h82).mono ?_
            rintro e w6 ⟨rfl, hb6⟩
            exact hK.out _ _ hb6 rfl
          have h73 : f 73 = .pointer (some ⟨b, 0, none⟩) := hf 73 (by kernel_rfl)
          have h74 : f 74 = .int .u32 (A7 : Int) := hf 74 (by kernel_rfl)
          have h75 : f 75 = .pointer (some ⟨b, 0, none⟩) := hf 75 (by kernel_rfl)
          have h76 : f 76 = .pointer (some ⟨b, 0, none⟩) := hf 76 (by kernel_rfl)
          have h77 : f 77 = .pointer (some ⟨b, 0, none⟩) := hf 77 (by kernel_rfl)
          have h78 : f 78 = .pointer (some ⟨b, 13, none⟩) := hf 78 (by kernel_rfl)
          have h79 : f 79 = .int .u32 (IN : Int) := hf 79 (by kernel_rfl)
          have h80 : f 80 = .int .u32 (IX : Int) := hf 80 (by kernel_rfl)
          have h81 : f 81 = .int .u32 (IY : Int) := hf 81 (by kernel_rfl)
          have h83 : f 83 = .string ⟨(wds [12, IY]).toArray⟩ := hf 83 (by kernel_rfl)
          have h82 := hf 82 (by kernel_rfl)
          obtain ⟨v28, hv28⟩ : ∃ v, v = f 82 := ⟨_, rfl⟩
          rw [← hv28] at h82
          have hv28 := hv28.symm
          simp only [putSl, List.take_succ_cons, List.take_zero, Act.put, List.setIfInBounds_toArray, List.set_cons_zero, List.set_cons_succ, h73, h74, h75, h76, h77, h78, h79, h80, h81, h83, hv28] at hA
          subst hA
          have H3 : Hid (Below w.heap.size w wy) := below_tr HS54.out.2.1 hR
          have H3i : Hid (IsB w.heap.size w.heap.size (wds ((((needW ps k) ++ [14, X]) ++ [4, A3, 5, A5, 6, A4, 17, A6]) ++ [10, S5, 18, S6, 11, 16, 19, 8])) wy) := isB_keep HS54.out.1 hR
          clear h73 h74 h75 h76 h77 h78 h79 h80 h81 h83 h82 hv28 hf hR K92 g13 g13d g13n k1 k2 k2' k3 k4 k4'
          generalize wy = wz67 at H3 H3i ⊢
          have KW := wrW w.heap.size ((((needW ps k) ++ [14, X]) ++ [4, A3, 5, A5, 6, A4, 17, A6]) ++ [10, S5, 18, S6, 11, 16, 19, 8]) [12, IY] wz67 H3i.out (by have := HS54.out.2.2; omega) (by simp) H3.out.size
          refine wpAny_ready (rs := [11]) (by kernel_rfl) (by decide) (AllReady.cons rfl ?_ AllReady.nil)
          intro K5 hK5
          refine if_yes (by kernel_rfl) ?_
          simp [go_sem]
          refine (KW).mono ?_
          rintro e wd66 ⟨rfl, hI4, hb4⟩
          refine hK5 _ _ ?_
          refine wpAny_done (by kernel_rfl) ?_ _
          clear hK5 K5
          clear H3i
          have HS65 : Hid (IsB w.heap.size w.heap.size (wds (((((needW ps k) ++ [14, X]) ++ [4, A3, 5, A5, 6, A4, 17, A6]) ++ [10, S5, 18, S6, 11, 16, 19, 8]) ++ [12, IY])) wd66 ∧ Below w.heap.size w wd66 ∧ (((((needW ps k) ++ [14, X]) ++ [4, A3, 5, A5, 6, A4, 17, A6]) ++ [10, S5, 18, S6, 11, 16, 19, 8]) ++ [12, IY]).length ≤ 36) := ⟨hI4, H3.out.trans (hb4.mono (Nat.le_refl _)), by have h1 := HS54.out.2.2; simp only [List.length_append, List.length_cons, List.length_nil] at h1 ⊢; omega⟩
          clear KW hI4 hb4 H3
          have e9 := keep_cell HS65.out.2.1 HD.out.2.2.1
          have ec1 : (NS : Int) + 1 = (CN : Int) := by have := HIX.out; omega
          have ec3 : IntKind.i64.wrap (CN : Int) = (CN : Int) := by rw [IntKind.wrap_i64]; have := HIX.out; have := HBD.out; omega
          have ec4 : (CN : Int) % 4294967296 = (CN : Int) := by have := HIX.out; have := HBD.out; omega
          have ec4' : IntKind.u32.wrap (CN : Int) = (CN : Int) := by rw [IntKind.wrap_u32]; exact ec4
          have ec2 := wrap64_nat CN (by have := HIX.out; have := HBD.out; omega)
          go_upto_region 14 with fail
          clear e9 ec1 ec2 ec3 ec4 ec4'
          have e11 := keep_cell HS65.out.2.1 HD.out.2.2.2.1
          have e12 := keep_cell HS65.out.2.1 HD.out.2.2.2.2.1
          have f1 : (2 : Int) + (NL : Int) = (OW : Int) := by have := HIX.out; omega
          have f3 : IntKind.i64.wrap (OW : Int) = (OW : Int) := by rw [IntKind.wrap_i64]; have := HIX.out; have := HBD.out; omega
          have f4 : (OW : Int) % 4294967296 = (OW : Int) := by have := HIX.out; have := HBD.out; omega
          have f4' : IntKind.u32.wrap (OW : Int) = (OW : Int) := by rw [IntKind.wrap_u32]; exact f4
          have f5 : (GL : Int) % 4294967296 = (GL : Int) := by have := HBD.out; omega
          have f5' : IntKind.u32.wrap (GL : Int) = (GL : Int) := by rw [IntKind.wrap_u32]; exact f5
          have f6 : (CN : Int) - (GL : Int) = (FI : Int) := by have := HIX.out; have := HBD.out; omega
          have f7 : (FI : Int) % 4294967296 = (FI : Int) := by have := HIX.out; have := HBD.out; omega
          have f7' : IntKind.u32.wrap (FI : Int) = (FI : Int) := by rw [IntKind.wrap_u32]; exact f7
          have K92 : Hid (∀ v w', SlN w' v [3, A8, 1879048202, OW, 1879048209, CN, 1879048211, FI] → Calls Tryz.prog 92 #[v] w' fun e w'' => e = .returned (.string ⟨(wds [3, A8, 1879048202, OW, 1879048209, CN, 1879048211, FI]).toArray⟩) ∧ Below w'.heap.size w' w'') := fun v w' hv => words92 [3, A8, 1879048202, OW, 1879048209, CN, 1879048211, FI] (by simp) v w' (by intro x hx; have hb := HBD.out; have hc := HIX.out; simp at hx; omega) hv
          have f2 := wrap64_nat OW (by have := HIX.out; have := HBD.out; omega)
          refine wp_region_cut (R := Ext) [⟨93, fun v _ => v = .pointer (some ⟨b, 0, none⟩), fun _ _ _ _ h => h⟩, ⟨94, fun v _ => v = .int .u32 (A8 : Int), fun _ _ _ _ h => h⟩, ⟨95, fun v _ => v = .pointer (some ⟨b, 0, none⟩), fun _ _ _ _ h => h⟩, ⟨96, fun v _ => v = .pointer (some ⟨b, 0, none⟩), fun _ _ _ _ h => h⟩, ⟨97, fun v _ => v = .pointer (some ⟨b, 0, none⟩), fun _ _ _ _ h => h⟩, ⟨98, fun v _ => v = .pointer (some ⟨b, 11, none⟩), fun _ _ _ _ h => h⟩, ⟨99, fun v _ => v = .slice la NL lc, fun _ _ _ _ h => h⟩, ⟨100, fun v _ => v = .int .i64 (NL : Int), fun _ _ _ _ h => h⟩, ⟨101, fun v _ => v = .int .i64 (OW : Int), fun _ _ _ _ h => h⟩, ⟨102, fun v _ => v = .int .u32 (OW : Int), fun _ _ _ _ h => h⟩, ⟨103, fun v _ => v = .int .u32 (CN : Int), fun _ _ _ _ h => h⟩, ⟨104, fun v _ => v = .int .u32 (CN : Int), fun _ _ _ _ h => h⟩, ⟨105, fun v _ => v = .pointer (some ⟨b, 0, none⟩), fun _ _ _ _ h => h⟩, ⟨106, fun v _ => v = .pointer (some ⟨b, 0, none⟩), fun _ _ _ _ h => h⟩, ⟨107, fun v _ => v = .pointer (some ⟨b, 0, none⟩), fun _ _ _ _ h => h⟩, ⟨108, fun v _ => v = .pointer (some ⟨b, 12, none⟩), fun _ _ _ _ h => h⟩, ⟨109, fun v _ => v = .int .i64 (GL : Int), fun _ _ _ _ h => h⟩, ⟨110, fun v _ => v = .int .u32 (GL : Int), fun _ _ _ _ h => h⟩, ⟨111, fun v _ => v = .int .u32 (FI : Int), fun _ _ _ _ h => h⟩, ⟨112, fun v W => SlN W v [3, A8, 1879048202, OW, 1879048209, CN, 1879048211, FI], fun v A C hb h => h.keep hb⟩, ⟨113, fun v _ => v = .string ⟨(wds [3, A8, 1879048202, OW, 1879048209, CN, 1879048211, FI]).toArray⟩, fun _ _ _ _ h => h⟩] _ 21 (by kernel_rfl) rfl (by kernel_rfl) (by decide) (by kernel_rfl) (Below.drew (Below.refl _ _)) (fun _ _ _ h1 h2 => below_tr h1 h2) (fun QQ => ⟨?_, ?_, ?_, ?_, ?_, ?_, ?_, ?_, ?_, ?_, ?_, ?_, ?_, ?_, ?_, ?_, ?_, ?_, ?_, ?_, ?_, trivial⟩) (fun f wy hR hf A hA => ?_)
          · intro A wx hR hout hdep K hK
            have h0 : A.tmps[0]?.getD undef = .pointer (some ⟨b, 0, none⟩) := hout 0 (by kernel_rfl)
            refine if_yes (by kernel_rfl) ?_
            simp [go_sem, h0, f1, f2, f3, f4, f4', f5, f5', f6, f7, f7']
            exact hK.out _ _ (Below.refl _ _) rfl
          · intro A wx hR hout hdep K hK
            have h93 : A.tmps[93]?.getD undef = .pointer (some ⟨b, 0, none⟩) := hdep 93 (by kernel_rfl)
            refine if_yes (by kernel_rfl) ?_
            simp [go_sem, h93, f1, f2, f3, f4, f4', f5, f5', f6, f7, f7']
            refine (K8.out _ (below_tr HS65.out.2.1 hR)).mono ?_
            rintro e w6 ⟨rfl, hb6⟩
            exact hK.out _ _ hb6 rfl
          · intro A wx hR hout hdep K hK
            have h0 : A.tmps[0]?.getD undef = .pointer (some ⟨b, 0, none⟩) := hout 0 (by kernel_rfl)
            refine if_yes (by kernel_rfl) ?_
            simp [go_sem, h0, f1, f2, f3, f4, f4', f5, f5', f6, f7, f7']
            exact hK.out _ _ (Below.refl _ _) rfl
          · intro A wx hR hout hdep K hK
            have h95 : A.tmps[95]?.getD undef = .pointer (some ⟨b, 0, none⟩) := hdep 95 (by kernel_rfl)
            refine if_yes (by kernel_rfl) ?_
            simp [go_sem, h95, f1, f2, f3, f4, f4', f5, f5', f6, f7, f7']
            exact hK.out _ _ (Below.refl _ _) rfl
          · intro A wx hR hout hdep K hK
            have h96 : A.tmps[96]?.getD undef = .pointer (some ⟨b, 0, none⟩) := hdep 96 (by kernel_rfl)
            refine if_yes (by kernel_rfl) ?_
            simp [go_sem, h96, f1, f2, f3, f4, f4', f5, f5', f6, f7, f7']
            exact hK.out _ _ (Below.refl _ _) rfl
          · intro A wx hR hout hdep K hK
            have h97 : A.tmps[97]?.getD undef = .pointer (some ⟨b, 0, none⟩) := hdep 97 (by kernel_rfl)
            refine if_yes (by kernel_rfl) ?_
            simp [go_sem, h97, f1, f2, f3, f4, f4', f5, f5', f6, f7, f7']
            exact hK.out _ _ (Below.refl _ _) rfl
          · intro A wx hR hout hdep K hK
            have h98 : A.tmps[98]?.getD undef = .pointer (some ⟨b, 11, none⟩) := hdep 98 (by kernel_rfl)
            refine if_yes (by kernel_rfl) ?_
            have e11 := keep_cell hR e11
            have e12 := keep_cell hR e12
            simp [go_sem, h98, e11, e12, f1, f2, f3, f4, f4', f5, f5', f6, f7, f7']
            exact hK.out _ _ (Below.refl _ _) rfl
          · intro A wx hR hout hdep K hK
            have h99 : A.tmps[99]?.getD undef = .slice la NL lc := hdep 99 (by kernel_rfl)
            refine if_yes (by kernel_rfl) ?_
            simp [go_sem, h99, f1, f2, f3, f4, f4', f5, f5', f6, f7, f7']
            exact hK.out _ _ (Below.refl _ _) rfl
          · intro A wx hR hout hdep K hK
            have h100 : A.tmps[100]?.getD undef = .int .i64 (NL : Int) := hdep 100 (by kernel_rfl)
            refine if_yes (by kernel_rfl) ?_
            simp [go_sem, h100, f1, f2, f3, f4, f4', f5, f5', f6, f7, f7']
            exact hK.out _ _ (Below.refl _ _) rfl
          · intro A wx hR hout hdep K hK
            have h101 : A.tmps[101]?.getD undef = .int .i64 (OW : Int) := hdep 101 (by kernel_rfl)
            refine if_yes (by kernel_rfl) ?_
            simp [go_sem, h101, f1, f2, f3, f4, f4', f5, f5', f6, f7, f7']
            exact hK.out _ _ (Below.refl _ _) rfl
          · intro A wx hR hout hdep K hK
            have h7 : A.tmps[7]?.getD undef = .int .u32 (CN : Int) := hout 7 (by kernel_rfl)
            refine if_yes (by kernel_rfl) ?_
            simp [go_sem, h7, f1, f2, f3, f4, f4', f5, f5', f6, f7, f7']
            exact hK.out _ _ (Below.refl _ _) rfl
          · intro A wx hR hout hdep K hK
            have h7 : A.tmps[7]?.getD undef = .int .u32 (CN : Int) := hout 7 (by kernel_rfl)
            refine if_yes (by kernel_rfl) ?_
            simp [go_sem, h7, f1, f2, f3, f4, f4', f5, f5', f6, f7, f7']
            exact hK.out _ _ (Below.refl _ _) rfl
          · intro A wx hR hout hdep K hK
            have h0 : A.tmps[0]?.getD undef = .pointer (some ⟨b, 0, none⟩) := hout 0 (by kernel_rfl)
            refine if_yes (by kernel_rfl) ?_
            simp [go_sem, h0, f1, f2, f3, f4, f4', f5, f5', f6, f7, f7']
            exact hK.out _ _ (Below.refl _ _) rfl
          · intro A wx hR hout hdep K hK
            have h105 : A.tmps[105]?.getD undef = .pointer (some ⟨b, 0, none⟩) := hdep 105 (by kernel_rfl)
            refine if_yes (by kernel_rfl) ?_
            simp [go_sem, h105, f1, f2, f3, f4, f4', f5, f5', f6, f7, f7']
            exact hK.out _ _ (Below.refl _ _) rfl
          · intro A wx hR hout hdep K hK
            have h106 : A.tmps[106]?.getD undef = .pointer (some ⟨b, 0, none⟩) := hdep 106 (by kernel_rfl)
            refine if_yes (by kernel_rfl) ?_
            simp [go_sem, h106, f1, f2, f3, f4, f4', f5, f5', f6, f7, f7']
            exact hK.out _ _ (Below.refl _ _) rfl
          · intro A wx hR hout hdep K hK
            have h107 : A.tmps[107]?.getD undef = .pointer (some ⟨b, 0, none⟩) := hdep 107 (by kernel_rfl)
            refine if_yes (by kernel_rfl) ?_
            simp [go_sem, h107, f1, f2, f3, f4, f4', f5, f5', f6, f7, f7']
            exact hK.out _ _ (Below.refl _ _) rfl
          · intro A wx hR hout hdep K hK
            have h108 : A.tmps[108]?.getD undef = .pointer (some ⟨b, 12, none⟩) := hdep 108 (by kernel_rfl)
            refine if_yes (by kernel_rfl) ?_
            have e11 := keep_cell hR e11
            have e12 := keep_cell hR e12
            simp [go_sem, h108, e11, e12, f1, f2, f3, f4, f4', f5, f5', f6, f7, f7']
            exact hK.out _ _ (Below.refl _ _) rfl
          · intro A wx hR hout hdep K hK
            have h109 : A.tmps[109]?.getD undef = .int .i64 (GL : Int) := hdep 109 (by kernel_rfl)
            refine if_yes (by kernel_rfl) ?_
            simp [go_sem, h109, f1, f2, f3, f4, f4', f5, f5', f6, f7, f7']
            exact hK.out _ _ (Below.refl _ _) rfl
          · intro A wx hR hout hdep K hK
            have h104 : A.tmps[104]?.getD undef = .int .u32 (CN : Int) := hdep 104 (by kernel_rfl)
            have h110 : A.tmps[110]?.getD undef = .int .u32 (GL : Int) := hdep 110 (by kernel_rfl)
            refine if_yes (by kernel_rfl) ?_
            simp [go_sem, h104, h110, f1, f2, f3, f4, f4', f5, f5', f6, f7, f7']
            exact hK.out _ _ (Below.refl _ _) rfl
          · intro A wx hR hout hdep K hK
            have h94 : A.tmps[94]?.getD undef = .int .u32 (A8 : Int) := hdep 94 (by kernel_rfl)
            have h102 : A.tmps[102]?.getD undef = .int .u32 (OW : Int) := hdep 102 (by kernel_rfl)
            have h103 : A.tmps[103]?.getD undef = .int .u32 (CN : Int) := hdep 103 (by kernel_rfl)
            have h111 : A.tmps[111]?.getD undef = .int .u32 (FI : Int) := hdep 111 (by kernel_rfl)
            refine if_yes (by kernel_rfl) ?_
            simp [go_sem, h94, h102, h103, h111, f1, f2, f3, f4, f4', f5, f5', f6, f7, f7']
            exact hK.out _ _ ((Below.refl _ _).alloc (Nat.le_refl _) _) (SlN.new _ [3, A8, 1879048202, OW, 1879048209, CN, 1879048211, FI] _ rfl 8 rfl (by simp))
          · intro A wx hR hout hdep K hK
            have h112 := hdep 112 (by kernel_rfl)
            refine if_yes (by kernel_rfl) ?_
            obtain ⟨v28, hv28⟩ : ∃ v, v = A.tmps[112]?.getD undef := ⟨_, rfl⟩
            rw [← hv28] at h112
            have hv28 := hv28.symm
            simp [go_sem, hv28]
            refine (K92.out v28 _ h112).mono ?_
            rintro e w6 ⟨rfl, hb6⟩
            exact hK.out _ _ hb6 rfl
          have h93 : f 93 = .pointer (some ⟨b, 0, none⟩) := hf 93 (by kernel_rfl)
          have h94 : f 94 = .int .u32 (A8 : Int) := hf 94 (by kernel_rfl)
          have h95 : f 95 = .pointer (some ⟨b, 0, none⟩) := hf 95 (by kernel_rfl)
          have h96 : f 96 = .pointer (some ⟨b, 0, none⟩) := hf 96 (by kernel_rfl)
          have h97 : f 97 = .pointer (some ⟨b, 0, none⟩) := hf 97 (by kernel_rfl)
          have h98 : f 98 = .pointer (some ⟨b, 11, none⟩) := hf 98 (by kernel_rfl)
          have h99 : f 99 = .slice la NL lc := hf 99 (by kernel_rfl)
          have h100 : f 100 = .int .i64 (NL : Int) := hf 100 (by kernel_rfl)
          have h101 : f 101 = .int .i64 (OW : Int) := hf 101 (by kernel_rfl)
          have h102 : f 102 = .int .u32 (OW : Int) := hf 102 (by kernel_rfl)
          have h103 : f 103 = .int .u32 (CN : Int) := hf 103 (by kernel_rfl)
          have h104 : f 104 = .int .u32 (CN : Int) := hf 104 (by kernel_rfl)
          have h105 : f 105 = .pointer (some ⟨b, 0, none⟩) := hf 105 (by kernel_rfl)
          have h106 : f 106 = .pointer (some ⟨b, 0, none⟩) := hf 106 (by kernel_rfl)
          have h107 : f 107 = .pointer (some ⟨b, 0, none⟩) := hf 107 (by kernel_rfl)
          have h108 : f 108 = .pointer (some ⟨b, 12, none⟩) := hf 108 (by kernel_rfl)
          have h109 : f 109 = .int .i64 (GL : Int) := hf 109 (by kernel_rfl)
          have h110 : f 110 = .int .u32 (GL : Int) := hf 110 (by kernel_rfl)
          have h111 : f 111 = .int .u32 (FI : Int) := hf 111 (by kernel_rfl)
          have h113 : f 113 = .string ⟨(wds [3, A8, 1879048202, OW, 1879048209, CN, 1879048211, FI]).toArray⟩ := hf 113 (by kernel_rfl)
          have h112 := hf 112 (by kernel_rfl)
          obtain ⟨v28, hv28⟩ : ∃ v, v = f 112 := ⟨_, rfl⟩
          rw [← hv28] at h112
          have hv28 := hv28.symm
          simp only [putSl, List.take_succ_cons, List.take_zero, Act.put, List.setIfInBounds_toArray, List.set_cons_zero, List.set_cons_succ, h93, h94, h95, h96, h97, h98, h99, h100, h101, h102, h103, h104, h105, h106, h107, h108, h109, h110, h111, h113, hv28] at hA
          subst hA
          have H3 : Hid (Below w.heap.size w wy) := below_tr HS65.out.2.1 hR
          have H3i : Hid (IsB w.heap.size w.heap.size (wds (((((needW ps k) ++ [14, X]) ++ [4, A3, 5, A5, 6, A4, 17, A6]) ++ [10, S5, 18, S6, 11, 16, 19, 8]) ++ [12, IY])) wy) := isB_keep HS65.out.1 hR
          clear h93 h94 h95 h96 h97 h98 h99 h100 h101 h102 h103 h104 h105 h106 h107 h108 h109 h110 h111 h113 h112 hv28 hf hR K92 e11 e12 f1 f2 f3 f4 f4' f5 f5' f6 f7 f7'
          generalize wy = wz70 at H3 H3i ⊢
          have KW := wrW w.heap.size (((((needW ps k) ++ [14, X]) ++ [4, A3, 5, A5, 6, A4, 17, A6]) ++ [10, S5, 18, S6, 11, 16, 19, 8]) ++ [12, IY]) [3, A8, 1879048202, OW, 1879048209, CN, 1879048211, FI] wz70 H3i.out (by have := HS65.out.2.2; omega) (by simp) H3.out.size
          refine wpAny_ready (rs := [21]) (by kernel_rfl) (by decide) (AllReady.cons rfl ?_ AllReady.nil)
          intro K5 hK5
          refine if_yes (by kernel_rfl) ?_
          simp [go_sem]
          refine (KW).mono ?_
          rintro e wd69 ⟨rfl, hI4, hb4⟩
          refine hK5 _ _ ?_
          refine wpAny_done (by kernel_rfl) ?_ _
          clear hK5 K5
          clear H3i
          have HS68 : Hid (IsB w.heap.size w.heap.size (wds ((((((needW ps k) ++ [14, X]) ++ [4, A3, 5, A5, 6, A4, 17, A6]) ++ [10, S5, 18, S6, 11, 16, 19, 8]) ++ [12, IY]) ++ [3, A8, 1879048202, OW, 1879048209, CN, 1879048211, FI])) wd69 ∧ Below w.heap.size w wd69 ∧ ((((((needW ps k) ++ [14, X]) ++ [4, A3, 5, A5, 6, A4, 17, A6]) ++ [10, S5, 18, S6, 11, 16, 19, 8]) ++ [12, IY]) ++ [3, A8, 1879048202, OW, 1879048209, CN, 1879048211, FI]).length ≤ 44) := ⟨hI4, H3.out.trans (hb4.mono (Nat.le_refl _)), by have h1 := HS65.out.2.2; simp only [List.length_append, List.length_cons, List.length_nil] at h1 ⊢; omega⟩
          clear KW hI4 hb4 H3
          obtain ⟨wb71, hW2⟩ : ∃ z, wd69.alloc (.cells #[.int .u32 0, .int .u32 0] 22) = z := ⟨_, rfl⟩
          have hal : Below wd69.heap.size wd69 wb71 := by rw [← hW2]; exact (Below.refl _ _).alloc (Nat.le_refl _) _
          have HS72 : Hid (IsB w.heap.size w.heap.size (wds ((((((needW ps k) ++ [14, X]) ++ [4, A3, 5, A5, 6, A4, 17, A6]) ++ [10, S5, 18, S6, 11, 16, 19, 8]) ++ [12, IY]) ++ [3, A8, 1879048202, OW, 1879048209, CN, 1879048211, FI])) wb71 ∧ Below w.heap.size w wb71) := ⟨isB_keep HS68.out.1 hal, below_tr HS68.out.2.1 hal⟩
          have K92 := words92 [0, 0] (by simp) (.slice (some ⟨wd69.heap.size, 0, none⟩) 2 2) wb71 (by intro x hx; have hb := HBD.out; have hc := HIX.out; simp at hx; omega) (by rw [← hW2]; exact SlN.new wd69 [0, 0] #[.int .u32 0, .int .u32 0] rfl 2 rfl (by simp))
          clear hal
          go_wp2_with fail
          refine K92.mono ?_
          rintro e wc74 ⟨rfl, hb3⟩
          have H3 : Hid (Below w.heap.size w wc74) := below_tr HS72.out.2 hb3
          have KW := wrW w.heap.size ((((((needW ps k) ++ [14, X]) ++ [4, A3, 5, A5, 6, A4, 17, A6]) ++ [10, S5, 18, S6, 11, 16, 19, 8]) ++ [12, IY]) ++ [3, A8, 1879048202, OW, 1879048209, CN, 1879048211, FI]) [0, 0] wc74 (isB_keep HS72.out.1 hb3) (by have := HS68.out.2.2; omega) (by simp) (Nat.le_trans HS72.out.2.size hb3.size)
          clear K92 hW2 hb3
          go_wp2_with fail
          refine KW.mono ?_
          rintro e wd75 ⟨rfl, hI4, hb4⟩
          have HS73 : Hid (IsB w.heap.size w.heap.size (wds (((((((needW ps k) ++ [14, X]) ++ [4, A3, 5, A5, 6, A4, 17, A6]) ++ [10, S5, 18, S6, 11, 16, 19, 8]) ++ [12, IY]) ++ [3, A8, 1879048202, OW, 1879048209, CN, 1879048211, FI]) ++ [0, 0])) wd75 ∧ Below w.heap.size w wd75 ∧ (((((((needW ps k) ++ [14, X]) ++ [4, A3, 5, A5, 6, A4, 17, A6]) ++ [10, S5, 18, S6, 11, 16, 19, 8]) ++ [12, IY]) ++ [3, A8, 1879048202, OW, 1879048209, CN, 1879048211, FI]) ++ [0, 0]).length ≤ 46) := ⟨hI4, H3.out.trans (hb4.mono (Nat.le_refl _)), by have h1 := HS68.out.2.2; simp only [List.length_append, List.length_cons, List.length_nil] at h1 ⊢; omega⟩
          clear KW hI4 hb4 H3
          have KS := string43 w.heap.size w.heap.size _ wd75 HS73.out.1 HS73.out.2.1.size
          have HE : Hid (wds (((((((needW ps k) ++ [14, X]) ++ [4, A3, 5, A5, 6, A4, 17, A6]) ++ [10, S5, 18, S6, 11, 16, 19, 8]) ++ [12, IY]) ++ [3, A8, 1879048202, OW, 1879048209, CN, 1879048211, FI]) ++ [0, 0]) = wds (y.linkW ps)) := by show _ = _; rw [HLW.out]; rw [if_neg hin]; rw [if_neg hso, HX.out.1]; simp only [List.append_assoc, List.nil_append]
          have HF : Hid (Below w.heap.size w wd75) := HS73.out.2.1
          rw [HE.out] at KS
          clear HS73
          go_wp2_with fail
          refine KS.mono ?_
          rintro e w9 ⟨rfl, hb9⟩
          go_wp2
          go_ret
          exact ⟨rfl, HF.out.trans hb9⟩
end Go.Proofs.YtgdflobcbhnimaaGreat
