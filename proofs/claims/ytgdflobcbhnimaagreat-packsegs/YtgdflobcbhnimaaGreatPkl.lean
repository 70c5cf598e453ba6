/- What is proved here: the texts with the names behind them, and where each of these stands. -/
import Derived.Test.YtgdflobcbhnimaaGreatPkk
import Derived.Test.YtgdflobcbhnimaaGreatEWn
namespace Go.Proofs.YtgdflobcbhnimaaGreat
open Go.RowKit 
set_option linter.unusedVariables false
set_option linter.unusedSimpArgs false
set_option maxRecDepth 100000
theorem strsN_le (t : L8) : ∀ (l : List L8), (∀ s ∈ l, s.length ≤ 31) → (strsN t l).length ≤ t.length + 32 * l.length := by
  intro l hl
  unfold strsN
  rw [List.length_append]
  have : (l.flatMap nm0).length ≤ 32 * l.length := by
    induction l with
    | nil => simp
    | cons a r ih =>
      rw [List.flatMap_cons, List.length_append, List.length_cons]
      have h1 := ih (fun s hs => hl s (List.mem_cons_of_mem _ hs))
      have h2 := hl a List.mem_cons_self
      have h3 : (nm0 a).length = a.length + 1 := by unfold nm0; simp
      omega
  omega
theorem names_le (y : Ly) (ok : y.Ok) : y.lib.names.length ≤ 9 ∧ ∀ s ∈ y.lib.names, s.length ≤ 31 := by
  unfold Lb.names
  refine ⟨by rw [List.length_append]; have := ok.fit.n0; simp; omega, fun s hs => ?_⟩
  rcases List.mem_append.1 hs with hs | hs
  · exact (ok.fit.n1 s hs).2.1
  · simp at hs; subst hs; exact ok.fit.so.1
theorem names_join (y : Ly) : joinS (fun i => if i = 0 then y.lib.needed else [y.lib.soname]) 2 = y.lib.names := by
  simp [joinS, Lb.names]
theorem OwnS.shape {B : Nat} {w : World} {v : Value} {xs : List L8} (h : OwnS B w v xs) : ∃ a c, v = .slice a xs.length c := by
  obtain ⟨_, h | ⟨g, cap, cur, h1, _⟩⟩ := h
  · exact ⟨none, 0, by rw [h.1, h.2]⟩
  · exact ⟨_, _, h1⟩
theorem own_baseS {B B' : Nat} {w : World} {v : Value} {xs : List L8} (h : OwnS B w v xs) (hb : B' ≤ B) : OwnS B' w v xs := by
  obtain ⟨h0, h | ⟨g, cap, cur, h1, h2, h3⟩⟩ := h
  · exact ⟨h0, Or.inl h⟩
  · exact ⟨h0, Or.inr ⟨g, cap, cur, h1, by omega, h3⟩⟩
set_option maxHeartbeats 4000000 in
theorem named60 (y : Ly) (q : Lv) (b : Nat) (tx : L8) (w : World) (h : BY y q b w) (ok : y.Ok) (hs : SlS w q.vn y.lib.needed) (ht : tx.length ≤ 100000) :
    Calls Tryz.prog 60 #[.pointer (some ⟨b, 0, none⟩), .string ⟨tx.toArray⟩] w fun e w' => (∃ v, e = .returned (.tuple #[.string ⟨(strsN tx y.lib.names).toArray⟩, v]) ∧ SlN w' v (plcN tx y.lib.names)) ∧ Below w.heap.size w w' := by
  have d6 : w.cell? ⟨b, 6, none⟩ = some q.vn := h.lib 6 rfl
  have d7 : w.cell? ⟨b, 7, none⟩ = some (.string ⟨y.lib.soname.toArray⟩) := h.lib 7 rfl
  obtain ⟨SO, hSO⟩ : ∃ z : ByteArray, z = ⟨y.lib.soname.toArray⟩ := ⟨_, rfl⟩
  have HSO : Hid (SO = ⟨y.lib.soname.toArray⟩) := hSO
  obtain ⟨VN, hVN⟩ : ∃ z, z = q.vn := ⟨_, rfl⟩
  obtain ⟨L, hL⟩ : ∃ z, z = y.lib.names := ⟨_, rfl⟩
  have HLL : Hid (L = y.lib.names ∧ L.length ≤ 9 ∧ ∀ s ∈ L, s.length ≤ 31) := ⟨hL, by rw [hL]; exact (names_le y ok).1, by rw [hL]; exact (names_le y ok).2⟩
  have HVN : Hid (SlS w VN y.lib.needed ∧ y.lib.needed.length ≤ 8 ∧ L.length = y.lib.needed.length + 1) := ⟨by rw [hVN]; exact hs, ok.fit.n0, by rw [hL]; unfold Lb.names; simp⟩
  rw [← hSO] at d7
  rw [← hVN] at d6
  obtain ⟨n0, nc, hvn, _⟩ := HVN.out.1
  obtain ⟨NN, hNN⟩ : ∃ z, z = y.lib.needed.length := ⟨_, rfl⟩
  rw [← hNN] at hvn
  subst hvn
  obtain ⟨NL, hNL⟩ : ∃ z, z = L.length := ⟨_, rfl⟩
  have K88 : Hid (∀ g w', Below w.heap.size w w' → (w'.cell? ⟨g, 0, none⟩ = some (.slice n0 NN nc) ∧ ∃ so, w'.cell? ⟨g, 1, none⟩ = some so ∧ SlS w' so [y.lib.soname]) → Calls Tryz.prog 88 #[.slice (some ⟨g, 0, none⟩) 2 2] w' fun e w'' => ∃ v, e = .returned v ∧ OwnS w'.heap.size w'' v L ∧ Below w'.heap.size w' w'') := fun g w' hw hc => by
    obtain ⟨hc0, so, hc1, hso⟩ := hc
    have := concat88 g 2 (fun i => if i = 0 then .slice n0 NN nc else so) (fun i => if i = 0 then y.lib.needed else [y.lib.soname]) w' (by decide) (by rw [names_join, ← hL]; have := HLL.out.2.1; omega) (fun i hi => by
      have hi2 : i = 0 ∨ i = 1 := by omega
      rcases hi2 with rfl | rfl
      · exact ⟨hc0, HVN.out.1.keep hw⟩
      · exact ⟨hc1, hso⟩)
    rw [names_join, ← hL] at this
    exact this
  rw [← hL]
  have HT : Hid (tx.length ≤ 100000) := ht
  have HNL : Hid (NL = L.length) := hNL
  clear h ok hs hSO hVN hL ht hNN hNL
  go_enter Tryz.func60, Tryz.ntmps60
  go_wp2
  refine wp_region_slots (R := Ext) [⟨9, fun v _ => v = .pointer (some ⟨b, 0, none⟩), fun _ _ _ _ h => h⟩, ⟨10, fun v _ => v = .pointer (some ⟨b, 0, none⟩), fun _ _ _ _ h => h⟩, ⟨11, fun v _ => v = .pointer (some ⟨b, 0, none⟩), fun _ _ _ _ h => h⟩, ⟨12, fun v _ => v = .pointer (some ⟨b, 6, none⟩), fun _ _ _ _ h => h⟩, ⟨13, fun v _ => v = .slice n0 NN nc, fun _ _ _ _ h => h⟩, ⟨14, fun v _ => v = .pointer (some ⟨b, 0, none⟩), fun _ _ _ _ h => h⟩, ⟨15, fun v _ => v = .pointer (some ⟨b, 0, none⟩), fun _ _ _ _ h => h⟩, ⟨16, fun v _ => v = .pointer (some ⟨b, 0, none⟩), fun _ _ _ _ h => h⟩, ⟨17, fun v _ => v = .pointer (some ⟨b, 7, none⟩), fun _ _ _ _ h => h⟩, ⟨18, fun v _ => v = .string SO, fun _ _ _ _ h => h⟩, ⟨19, fun v W => SlS W v [y.lib.soname] ∧ ∃ g, v = .slice (some ⟨g, 0, none⟩) 1 1, fun v A C hb h => ⟨h.1.keep hb, h.2⟩⟩, ⟨20, fun v W => ∃ g, v = .slice (some ⟨g, 0, none⟩) 2 2 ∧ W.cell? ⟨g, 0, none⟩ = some (.slice n0 NN nc) ∧ ∃ so, W.cell? ⟨g, 1, none⟩ = some so ∧ SlS W so [y.lib.soname], fun v A C hb h => by obtain ⟨g, h1, h2, so, h3, h4⟩ := h; exact ⟨g, h1, keep_cell hb h2, so, keep_cell hb h3, h4.keep hb⟩⟩, ⟨21, fun v W => OwnS w.heap.size W v L, fun v A C hb h => h.keep hb⟩, ⟨22, fun v _ => v = .int .i64 (NL : Int), fun _ _ _ _ h => h⟩, ⟨23, fun v _ => v = .int .i64 0, fun _ _ _ _ h => h⟩] _ (by kernel_rfl) rfl (by kernel_rfl) (Below.drew (Below.refl _ _)) (fun _ _ _ h1 h2 => below_tr h1 h2) (fun QQ => ⟨?_, ?_, ?_, ?_, ?_, ?_, ?_, ?_, ?_, ?_, ?_, ?_, ?_, ?_, ?_, trivial⟩) (fun f wy hR hf => ?_)
  · intro A wx hR hout hdep K hK
    have h0 : A.tmps[0]?.getD undef = .pointer (some ⟨b, 0, none⟩) := hout 0 (by kernel_rfl)
    refine if_yes (by kernel_rfl) ?_
    simp [go_sem, h0]
    exact hK.out _ _ (Below.refl _ _) rfl
  · intro A wx hR hout hdep K hK
    have h9 : A.tmps[9]?.getD undef = .pointer (some ⟨b, 0, none⟩) := hdep 9 (by kernel_rfl)
    refine if_yes (by kernel_rfl) ?_
    simp [go_sem, h9]
    exact hK.out _ _ (Below.refl _ _) rfl
  · intro A wx hR hout hdep K hK
    have h10 : A.tmps[10]?.getD undef = .pointer (some ⟨b, 0, none⟩) := hdep 10 (by kernel_rfl)
    refine if_yes (by kernel_rfl) ?_
    simp [go_sem, h10]
    exact hK.out _ _ (Below.refl _ _) rfl
  · intro A wx hR hout hdep K hK
    have h11 : A.tmps[11]?.getD undef = .pointer (some ⟨b, 0, none⟩) := hdep 11 (by kernel_rfl)
    refine if_yes (by kernel_rfl) ?_
    simp [go_sem, h11]
    exact hK.out _ _ (Below.refl _ _) rfl
  · intro A wx hR hout hdep K hK
    have h12 : A.tmps[12]?.getD undef = .pointer (some ⟨b, 6, none⟩) := hdep 12 (by kernel_rfl)
    refine if_yes (by kernel_rfl) ?_
    have d6 := keep_cell hR d6
    have d7 := keep_cell hR d7
    simp [go_sem, h12, d6, d7]
    exact hK.out _ _ (Below.refl _ _) rfl
  · intro A wx hR hout hdep K hK
    have h0 : A.tmps[0]?.getD undef = .pointer (some ⟨b, 0, none⟩) := hout 0 (by kernel_rfl)
    refine if_yes (by kernel_rfl) ?_
    simp [go_sem, h0]
    exact hK.out _ _ (Below.refl _ _) rfl
  · intro A wx hR hout hdep K hK
    have h14 : A.tmps[14]?.getD undef = .pointer (some ⟨b, 0, none⟩) := hdep 14 (by kernel_rfl)
    refine if_yes (by kernel_rfl) ?_
    simp [go_sem, h14]
    exact hK.out _ _ (Below.refl _ _) rfl
  · intro A wx hR hout hdep K hK
    have h15 : A.tmps[15]?.getD undef = .pointer (some ⟨b, 0, none⟩) := hdep 15 (by kernel_rfl)
    refine if_yes (by kernel_rfl) ?_
    simp [go_sem, h15]
    exact hK.out _ _ (Below.refl _ _) rfl
  · intro A wx hR hout hdep K hK
    have h16 : A.tmps[16]?.getD undef = .pointer (some ⟨b, 0, none⟩) := hdep 16 (by kernel_rfl)
    refine if_yes (by kernel_rfl) ?_
    simp [go_sem, h16]
    exact hK.out _ _ (Below.refl _ _) rfl
  · intro A wx hR hout hdep K hK
    have h17 : A.tmps[17]?.getD undef = .pointer (some ⟨b, 7, none⟩) := hdep 17 (by kernel_rfl)
    refine if_yes (by kernel_rfl) ?_
    have d6 := keep_cell hR d6
    have d7 := keep_cell hR d7
    simp [go_sem, h17, d6, d7]
    exact hK.out _ _ (Below.refl _ _) rfl
  · intro A wx hR hout hdep K hK
    have h18 : A.tmps[18]?.getD undef = .string SO := hdep 18 (by kernel_rfl)
    refine if_yes (by kernel_rfl) ?_
    simp [go_sem, h18]
    exact hK.out _ _ ((Below.refl _ _).alloc (Nat.le_refl _) _) ⟨⟨_, _, rfl, Nat.le_refl _, by decide, (by intro h; cases h), fun i hi => ⟨_, 0, rfl, by have hi0 : i = 0 := (by simpa using hi); subst hi0; rw [cell_newA _ _ _ _ _ _ rfl rfl, HSO.out]; rfl⟩⟩, _, rfl⟩
  · intro A wx hR hout hdep K hK
    have h13 : A.tmps[13]?.getD undef = .slice n0 NN nc := hdep 13 (by kernel_rfl)
    have h19 := hdep 19 (by kernel_rfl)
    refine if_yes (by kernel_rfl) ?_
    obtain ⟨hs19, g19, hv19⟩ := h19
    simp [go_sem, h13, hv19]
    rw [hv19] at hs19
    have hal : ∀ o, Below wx.heap.size wx (wx.alloc o) := fun o => (Below.refl _ _).alloc (Nat.le_refl _) _
    exact hK.out _ _ (hal _) ⟨_, rfl, blk_at (cs := [.slice n0 NN nc, .slice (some ⟨g19, 0, none⟩) 1 1]) (new_heap wx _ _) 0 rfl, .slice (some ⟨g19, 0, none⟩) 1 1, blk_at (cs := [.slice n0 NN nc, .slice (some ⟨g19, 0, none⟩) 1 1]) (new_heap wx _ _) 1 rfl, hs19.keep (hal _)⟩
  · intro A wx hR hout hdep K hK
    have h20 := hdep 20 (by kernel_rfl)
    refine if_yes (by kernel_rfl) ?_
    obtain ⟨g20, hv20, hc0, hc1⟩ := h20
    simp [go_sem, hv20]
    refine (K88.out g20 _ (by exact hR) ⟨hc0, hc1⟩).mono ?_
    rintro e w6 ⟨v6, rfl, ho6, hb6⟩
    exact hK.out _ _ hb6 (own_baseS ho6 hR.size)
  · intro A wx hR hout hdep K hK
    have h21 := hdep 21 (by kernel_rfl)
    refine if_yes (by kernel_rfl) ?_
    obtain ⟨a21, c21, hv21⟩ := OwnS.shape h21
    rw [← HNL.out] at hv21
    simp [go_sem, hv21]
    exact hK.out _ _ (Below.refl _ _) rfl
  · intro A wx hR hout hdep K hK
    refine if_yes (by kernel_rfl) ?_
    simp [go_sem]
    exact hK.out _ _ (Below.refl _ _) rfl
  have h9 : f 9 = .pointer (some ⟨b, 0, none⟩) := hf 9 (by kernel_rfl)
  have h10 : f 10 = .pointer (some ⟨b, 0, none⟩) := hf 10 (by kernel_rfl)
  have h11 : f 11 = .pointer (some ⟨b, 0, none⟩) := hf 11 (by kernel_rfl)
  have h12 : f 12 = .pointer (some ⟨b, 6, none⟩) := hf 12 (by kernel_rfl)
  have h13 : f 13 = .slice n0 NN nc := hf 13 (by kernel_rfl)
  have h14 : f 14 = .pointer (some ⟨b, 0, none⟩) := hf 14 (by kernel_rfl)
  have h15 : f 15 = .pointer (some ⟨b, 0, none⟩) := hf 15 (by kernel_rfl)
  have h16 : f 16 = .pointer (some ⟨b, 0, none⟩) := hf 16 (by kernel_rfl)
  have h17 : f 17 = .pointer (some ⟨b, 7, none⟩) := hf 17 (by kernel_rfl)
  have h18 : f 18 = .string SO := hf 18 (by kernel_rfl)
  have h22 : f 22 = .int .i64 (NL : Int) := hf 22 (by kernel_rfl)
  have h23 : f 23 = .int .i64 0 := hf 23 (by kernel_rfl)
  have h19 := hf 19 (by kernel_rfl)
  have h20 := hf 20 (by kernel_rfl)
  have h21 := hf 21 (by kernel_rfl)
  have HR : Hid (Below w.heap.size w wy) := hR
  obtain ⟨v19, hv19⟩ : ∃ v, f 19 = v := ⟨_, rfl⟩
  obtain ⟨v20, hv20⟩ : ∃ v, f 20 = v := ⟨_, rfl⟩
  obtain ⟨v21, hv21⟩ : ∃ v, f 21 = v := ⟨_, rfl⟩
  have h21 : OwnS w.heap.size wy (f 21) L := h21
  rw [hv21] at h21
  simp only [putSl, Act.put, List.setIfInBounds_toArray, List.set_cons_zero, List.set_cons_succ, hv19, hv20, hv21, h9, h10, h11, h12, h13, h14, h15, h16, h17, h18, h22, h23]
  obtain ⟨a21, c21, rfl⟩ := OwnS.shape h21
  rw [← HNL.out]
  rw [← HNL.out] at h21
  have HS21 : Hid (SlS wy (.slice a21 NL c21) L) := OwnS.sl h21
  clear hv19 hv20 hv21 h19 h20 h21 hf hR h9 h10 h11 h12 h13 h14 h15 h16 h17 h18 h22 h23 K88 d6 d7
  generalize v19 = v19
  generalize v20 = v20
  go_wp2
  go_loopw [1, 6, 23] (fun tv v x wr => ∃ k : Nat, x = .int .i64 (k : Int) ∧ k ≤ NL ∧ tv = .string ⟨(strsN tx (L.take k)).toArray⟩ ∧ OwnN wy.heap.size wr v (plcN tx (L.take k)) ∧ Below wy.heap.size wy wr) (fun _ _ x _ => NL - (intOf x).toNat)
  case atStart => exact ⟨0, rfl, Nat.zero_le _, by simp [strsN], ⟨rfl, Or.inl ⟨rfl, rfl⟩⟩, Below.refl _ _⟩
  case round =>
    obtain ⟨k, rfl, hk, rfl, hI, hby⟩ := hrel
    obtain ⟨va, vc, hvs⟩ := hI.shape
    have hpk : (plcN tx (L.take k)).length = k := by rw [plcN_len, List.length_take, ← HNL.out]; omega
    rw [hpk] at hvs
    subst hvs
    have hNLb : NL ≤ 9 := by have := HLL.out.2.1; have := HNL.out; omega
    by_cases hlt : k < NL
    · have hkl : k < L.length := by rw [← HNL.out]; exact hlt
      obtain ⟨ao', cap', he, _, _, _, h4⟩ := HS21.out
      obtain ⟨sb, o, hlo, c0⟩ := h4 k hkl
      injection he with he1 he2 he3
      clear he2 he3
      rw [← he1] at hlo
      replace c0 := keep_cell hby c0
      obtain ⟨S, hS⟩ : ∃ S, S = L[k] := ⟨_, rfl⟩
      rw [← hS] at c0
      have htk : L.take (k + 1) = L.take k ++ [S] := by rw [hS]; exact List.take_succ_eq_append_getElem hkl
      have hsl : S.length ≤ 31 := HLL.out.2.2 S (by rw [hS]; exact List.getElem_mem hkl)
      have hTl : (strsN tx (L.take k)).length ≤ 100288 := by
        have h1 := strsN_le tx (L.take k) (fun s hs => HLL.out.2.2 s (List.mem_of_mem_take hs))
        rw [List.length_take] at h1
        have := HT.out
        omega
      obtain ⟨TX, hTX⟩ : ∃ z, z = strsN tx (L.take k) := ⟨_, rfl⟩
      have hn1 : strsN tx (L.take (k + 1)) = TX ++ nm0 S := by rw [htk, strsN_snoc, hTX]
      have hn2 : plcN tx (L.take (k + 1)) = plcN tx (L.take k) ++ [TX.length] := by rw [htk, plcN_snoc, hTX]
      rw [← hTX] at hTl ⊢
      obtain ⟨TL, hTL⟩ : ∃ z, z = TX.length := ⟨_, rfl⟩
      obtain ⟨TB, hTB⟩ : ∃ z : ByteArray, z = ⟨TX.toArray⟩ := ⟨_, rfl⟩
      obtain ⟨SB1, hSB⟩ : ∃ z : ByteArray, z = ⟨S.toArray⟩ := ⟨_, rfl⟩
      have zTB : TB.size = TL := by rw [← E.bt_len, hTB, E.bal, hTL]
      have zSB : SB1.size = S.length := by rw [← E.bt_len, hSB, E.bal]
      have hcat1 : SB1 ++ ⟨#[0]⟩ = ⟨(nm0 S).toArray⟩ := by rw [hSB]; exact E.ba_app S [0]
      obtain ⟨SZ, hSZ⟩ : ∃ z : ByteArray, SB1 ++ ⟨#[0]⟩ = z := ⟨_, rfl⟩
      have zSZ : SZ.size = S.length + 1 := by rw [← hSZ, ByteArray.size_append, zSB]; rfl
      obtain ⟨TN, hTN⟩ : ∃ z : ByteArray, TB ++ SZ = z := ⟨_, rfl⟩
      have HTN : Hid (TN = ⟨(strsN tx (L.take (k + 1))).toArray⟩) := by show _ = _; rw [hn1, ← hTN, ← hSZ, hcat1, hTB]; exact E.ba_app _ _
      have hl1 : ¬ 9223372036854775807 < SB1.size + 1 := by omega
      have hl2 : ¬ 9223372036854775807 < TB.size + SZ.size := by omega
      have hTi : (TB.size : Int) = (TL : Int) := by omega
      have hTw : (TL : Int) % 4294967296 = (TL : Int) := by omega
      have hTw' : IntKind.u32.wrap (TL : Int) = (TL : Int) := by rw [IntKind.wrap_u32]; exact hTw
      have hki : (k : Int) < (NL : Int) := by omega
      rw [← hTB]
      rw [← hSB] at c0
      rw [← hTL] at hn2
      obtain ⟨W3, hW3⟩ : ∃ z, wr.alloc (.cells #[.int .u32 (TL : Int)] 22) = z := ⟨_, rfl⟩
      have hal : Below wr.heap.size wr W3 := by rw [← hW3]; exact (Below.refl _ _).alloc (Nat.le_refl _) _
      have H3 : Hid (OwnN wy.heap.size W3 (.slice va k vc) (plcN tx (L.take k)) ∧ Below wy.heap.size wy W3 ∧ (∀ j u, ([u32C TL])[j]? = some u → W3.cell? ((⟨wr.heap.size, 0, none⟩ : Addr).add j) = some u) ∧ plcN tx (L.take (k + 1)) = plcN tx (L.take k) ++ [TL] ∧ k < NL) := ⟨hI.keep hal, below_tr hby hal, by rw [← hW3]; exact new1 wr TL, hn2, hlt⟩
      obtain ⟨i0, hi1, hi2, hi3, hi4⟩ := infoN
      have ho3 : W3.ownsRow wy.heap.size 22 1 (.slice va k vc) k ((plcN tx (L.take k)).map u32C) := by have := H3.out.1; unfold OwnN at this; rw [hpk] at this; exact this
      have HPK : Hid ((plcN tx (L.take k)).length = k) := hpk
      subst hlo
      clear hS htk hsl hTl hTX hn1 hn2 hTL hTB hSB zTB zSB hcat1 zSZ hI hal h4 he1 hkl hk hpk hby hlt
      go_wp2_with (at_builtin; refine wpList_append_own _ rfl _ _ 26 rfl wy.heap.size 22 i0 _ 1 4 Tryz.underlying26 hi1 hi2 hi3 hi4 rfl (by decide) _ k _ rfl ho3 ⟨wr.heap.size, 0, none⟩ 1 1 [u32C TL] rfl rfl H3.out.2.2.1 ?_ ?_ ?_ H3.out.2.1.size ?_)
      · intro u hu; simp at hu; subst hu; rfl
      · unfold maxLen; omega
      · omega
      intro v' w4 ho4 hg4 _
      have hkN := H3.out.2.2.2.2
      have H4 : Hid (OwnN wy.heap.size w4 v' (plcN tx (L.take (k + 1))) ∧ Below wy.heap.size wy w4) := by
        rw [H3.out.2.2.2.1]
        exact H3.out.1.next (by rw [HPK.out]; exact ho4) hg4 H3.out.2.1 (Nat.le_refl _)
      clear ho4 hg4 ho3 hW3 hi1 hi2 hi3 hi4 hTi hTw hTw' c0
      go_wp2
      go_roundw
      case rel => exact ⟨k + 1, by go_num, hkN, by rw [HTN.out], H4.out.1, H4.out.2⟩
      case measure => simp [intOf]; omega
    · have hkN : k = NL := by omega
      have hki : ¬ (k : Int) < (NL : Int) := by omega
      subst hkN
      have hall : L.take k = L := by rw [HNL.out]; exact List.take_length
      rw [hall] at hI ⊢
      have HF : Hid (SlN wr (.slice va k vc) (plcN tx L) ∧ Below w.heap.size w wr) := ⟨hI.sl, below_tr HR.out hby⟩
      clear hI hby hall hpk
      go_wp2
      go_ret2
      exact ⟨⟨.slice va k vc, rfl, HF.out.1⟩, HF.out.2⟩
end Go.Proofs.YtgdflobcbhnimaaGreat
