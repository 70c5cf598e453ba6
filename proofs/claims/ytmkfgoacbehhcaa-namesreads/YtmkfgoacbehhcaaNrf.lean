/- What is proved here: where a name's symbol is: the document's Find. -/
import Derived.Test.YtmkfgoacbehhcaaNrd
import Derived.Test.YtmkfgoacbehhcaaNr
import Derived.Test.YtmkfgoacbehhcaaNc
import Derived.Test.YtmkfgoacbehhcaaNf
import Derived.OrdersHeld
namespace Go.Proofs.Ytmkfgoacbehhcaa
open Go.RowKit
set_option linter.unusedVariables false
set_option linter.unusedSimpArgs false
set_option maxRecDepth 100000
attribute [local go_sem] Oper.semAt_some
theorem wAt_no (hs : L8) (k : Nat) (h : decide (k < hs.length / 4) = false) : wAt hs k = 0 := by
  unfold wAt
  rw [if_neg (of_decide_eq_false h)]
theorem goF_stop (hs : L8) (ways cnt : Nat) (p : Nat → Bool) (f o : Nat) (h : wAt hs (2 + o) = 0 ∨ cnt ≤ wAt hs (2 + o)) : goF hs ways cnt p f o = 0 := by
  cases f with
  | zero => rfl
  | succ f => rw [goF, if_pos h]
theorem goF_hit (hs : L8) (ways cnt : Nat) (p : Nat → Bool) (f o : Nat) (h : ¬ (wAt hs (2 + o) = 0 ∨ cnt ≤ wAt hs (2 + o))) (hp : p (wAt hs (2 + o)) = true) : goF hs ways cnt p (f + 1) o = wAt hs (2 + o) := by
  rw [goF, if_neg h, if_pos hp]
theorem goF_next (hs : L8) (ways cnt : Nat) (p : Nat → Bool) (f o : Nat) (h : ¬ (wAt hs (2 + o) = 0 ∨ cnt ≤ wAt hs (2 + o))) (hp : p (wAt hs (2 + o)) = false) : goF hs ways cnt p (f + 1) o = goF hs ways cnt p f (ways + wAt hs (2 + o)) := by
  rw [goF, if_neg h, if_neg (by rw [hp]; decide)]
set_option maxHeartbeats 8000000 in
theorem rfind12 (T : Tb) (name : L8) (hl1 : T.syms.length ≤ 1000000) (hl2 : T.strs.length ≤ 1000000) (hl3 : T.hash.length ≤ 1000000) (hl4 : name.length ≤ 1000000) (w : World) :
    Calls Try.prog 12 #[T.val, .string ⟨name.toArray⟩] w fun e w' => e = .returned (.tuple #[.int .i64 (fdA (findN T name)), .bool (decide (findN T name ≠ 0))]) ∧ Below w.heap.size w w' := by
  obtain ⟨W1, hW1, hb1, hz1, h31⟩ := box3 w T
  obtain ⟨NM, hNM⟩ : ∃ z : ByteArray, z = ⟨name.toArray⟩ := ⟨_, rfl⟩
  have K10 := rread10 T hl1 hl2 W1
  have H1 : Hid (Below w.heap.size w W1 ∧ T3 T w.heap.size W1) := ⟨hb1, h31⟩
  obtain ⟨u0, u1, u2⟩ := h31.cells
  have HNM : Hid (NM = ⟨name.toArray⟩ ∧ name.length ≤ 1000000 ∧ T.hash.length ≤ 1000000) := ⟨hNM, hl4, hl3⟩
  rw [← hNM]
  obtain ⟨F, hF⟩ : ∃ z, z = findN T name := ⟨_, rfl⟩
  have HF : Hid (F = if readE T = true then findIn T.hash (readL T) name else 0) := hF
  rw [← hF]
  obtain ⟨FA, hFA⟩ : ∃ z, z = fdA F := ⟨_, rfl⟩
  obtain ⟨FB, hFB⟩ : ∃ z, z = decide (F ≠ 0) := ⟨_, rfl⟩
  rw [← hFA, ← hFB]
  have HFA : Hid (FA = fdA F ∧ FB = decide (F ≠ 0)) := ⟨hFA, hFB⟩
  clear hFA hFB
  have H0 : Hid (F = 0 → FA = 0 ∧ FB = false) := fun h => by rw [HFA.out.1, HFA.out.2, h]; exact ⟨rfl, rfl⟩
  unfold Tb.val at K10 ⊢
  obtain ⟨HS, hHS⟩ : ∃ z : ByteArray, z = ⟨T.hash.toArray⟩ := ⟨_, rfl⟩
  have KN : Hid (∀ (b : Nat) (w' : World), b < 18446744073709551616 → Calls Try.prog 26 #[.string HS, .int .u64 (b : Int)] w' fun e w'' => e = .returned (.tuple #[.int .u32 (wAt T.hash b : Int), .bool (decide (b < T.hash.length / 4))]) ∧ w'' = w') := fun b w' h => by rw [hHS]; exact number26 T.hash b h hl3 w'
  have HHS : Hid (HS = ⟨T.hash.toArray⟩) := hHS
  rw [← hHS] at K10 u2 hW1 ⊢
  generalize (⟨T.syms.toArray⟩ : ByteArray) = SS at K10 u0 hW1 ⊢
  generalize (⟨T.strs.toArray⟩ : ByteArray) = QS at K10 u1 hW1 ⊢
  have KN0 : Hid (∀ w', Calls Try.prog 26 #[.string HS, .int .u64 0] w' fun e w'' => e = .returned (.tuple #[.int .u32 (wAt T.hash 0 : Int), .bool (decide (0 < T.hash.length / 4))]) ∧ w'' = w') := fun w' => KN.out 0 w' (by omega)
  obtain ⟨W0, hW0⟩ : ∃ z, z = wAt T.hash 0 := ⟨_, rfl⟩
  obtain ⟨OK0, hOK0⟩ : ∃ z, z = decide (0 < T.hash.length / 4) := ⟨_, rfl⟩
  rw [← hW0, ← hOK0] at KN0
  have HW0 : Hid (W0 = wAt T.hash 0 ∧ OK0 = decide (0 < T.hash.length / 4) ∧ W0 < 4294967296) := ⟨hW0, hOK0, by rw [hW0]; exact wAt_lt _ _⟩
  clear hb1 hz1 h31 hNM hl1 hl2 hl3 hl4 hHS hF hW0 hOK0
  go_enter Try.func12, Try.ntmps12
  go_wp2_with fail
  refine K10.mono ?_
  rintro e w3 ⟨⟨v, rfl, hO⟩, hb3⟩
  have H3 : Hid (Below w.heap.size w w3 ∧ SlY w3 v (readL T)) := ⟨below_tr H1.out.1 hb3, hO.sl⟩
  have u0 := keep_cell hb3 u0
  have u1 := keep_cell hb3 u1
  have u2 := keep_cell hb3 u2
  obtain ⟨sa, sc, rfl⟩ := hO.shape
  clear K10 hW1 hO hb3
  go_wp2_with fail
  refine (KN0.out w3).mono ?_
  rintro e w4 ⟨rfl, rfl⟩
  clear KN0
  cases hre : readE T with
  | false =>
    have HE : Hid (F = 0) := by show _ = _; rw [HF.out, hre]; rfl
    rw [err_no hre]
    clear hre
    obtain ⟨rfl, rfl⟩ := H0.out HE.out
    go_wp2
    go_ret2
    exact ⟨rfl, H3.out.1⟩
  | true =>
    rw [err_yes hre]
    have HE : Hid (F = findIn T.hash (readL T) name) := by show _ = _; rw [HF.out, hre]; rfl
    have HLL : Hid ((readL T).length ≤ 200) := by
      show _ ≤ _
      rw [readL_yes hre, symsAt_len]
      have h1 : lenOk T = true := by
        cases h : lenOk T with
        | true => rfl
        | false => rw [read_no1 h] at hre; cases hre
      exact (len_parts h1).2
    clear hre
    cases hk0 : OK0 with
    | false =>
      have HZ : Hid (F = 0) := by
        show _ = _
        rw [HE.out]
        unfold findIn
        rw [if_pos (wAt_no _ _ (by rw [← HW0.out.2.1]; exact hk0))]
      clear hk0
      obtain ⟨rfl, rfl⟩ := H0.out HZ.out
      go_wp2
      go_ret2
      exact ⟨rfl, H3.out.1⟩
    | true =>
      by_cases hw : W0 = 0
      · have HZ : Hid (F = 0) := by
          show _ = _
          rw [HE.out]
          unfold findIn
          rw [if_pos (by rw [← HW0.out.1]; exact hw)]
        have hwb : ((W0 : Int) == 0) = true := by rw [hw]; rfl
        have hwe : (W0 : Int) = 0 := by rw [hw]; rfl
        clear hk0
        obtain ⟨rfl, rfl⟩ := H0.out HZ.out
        go_wp2
        go_ret2
        exact ⟨rfl, H3.out.1⟩
      · have hwb : ((W0 : Int) == 0) = false := by simp; omega
        have hwn : ¬ (W0 : Int) = 0 := by omega
        obtain ⟨LS, hLS⟩ : ∃ z, z = readL T := ⟨_, rfl⟩
        rw [← hLS] at HE HLL H3 ⊢
        obtain ⟨LN, hLN⟩ : ∃ z, z = LS.length := ⟨_, rfl⟩
        have HLN : Hid (LN = LS.length ∧ LN ≤ 200) := ⟨hLN, by rw [hLN]; exact HLL.out⟩
        rw [← hLN]
        obtain ⟨H, hH⟩ : ∃ z, z = hashL name := ⟨_, rfl⟩
        obtain ⟨R0, hR0⟩ : ∃ z, z = H % W0 := ⟨_, rfl⟩
        obtain ⟨R2, hR2⟩ : ∃ z, z = 2 + R0 := ⟨_, rfl⟩
        have hHb : H < 268435456 := by rw [hH]; exact hashL_lt _
        have hRb : R0 < 268435456 := by rw [hR0]; exact Nat.lt_of_le_of_lt (Nat.mod_le _ _) hHb
        have eR : (H : Int) % (W0 : Int) = (R0 : Int) := by rw [hR0]; exact (Int.natCast_emod _ _).symm
        have eRt : (H : Int).tmod (W0 : Int) = (R0 : Int) := by rw [hR0]; exact (Int.ofNat_tmod _ _).symm
        have eR2 : (2 : Int) + (R0 : Int) = (R2 : Int) := by omega
        have wR0 : IntKind.u64.wrap (R0 : Int) = (R0 : Int) := by rw [IntKind.wrap_u64]; omega
        have wR2 : IntKind.u64.wrap (R2 : Int) = (R2 : Int) := by rw [IntKind.wrap_u64]; omega
        have HFI : Hid (F = goF T.hash W0 (LN + 1) (isIt LS name) (LN + 1) R0 ∧ R2 = 2 + R0 ∧ R0 < 268435456) := by
          refine ⟨?_, hR2, hRb⟩
          rw [HE.out]
          unfold findIn
          rw [← HW0.out.1, if_neg hw, hR0, hH, hLN]
        have K15 : Hid (∀ w', Calls Try.prog 15 #[.string NM] w' fun e w'' => e = .returned (.int .u32 (H : Int)) ∧ w'' = w') := fun w' => by
          have := rhash15 NM (by rw [← bt_len, HNM.out.1, bal]; exact HNM.out.2.1) w'
          rw [HNM.out.1, bal] at this
          rw [HNM.out.1, hH]
          exact this
        have KR : Hid (∀ w', Calls Try.prog 26 #[.string HS, .int .u64 (R2 : Int)] w' fun e w'' => e = .returned (.tuple #[.int .u32 (wAt T.hash (2 + R0) : Int), .bool (decide (2 + R0 < T.hash.length / 4))]) ∧ w'' = w') := fun w' => by rw [← hR2]; exact KN.out R2 w' (by omega)
        obtain ⟨K0, hK0⟩ : ∃ z, z = wAt T.hash (2 + R0) := ⟨_, rfl⟩
        obtain ⟨D0, hD0⟩ : ∃ z, z = decide (2 + R0 < T.hash.length / 4) := ⟨_, rfl⟩
        have HK0 : Hid (K0 = wAt T.hash (2 + R0) ∧ D0 = decide (2 + R0 < T.hash.length / 4)) := ⟨hK0, hD0⟩
        rw [← hK0, ← hD0] at KR
        clear hk0 hLS hLN hH hR0 hR2 hHb hRb hK0 hD0 HE HLL
        go_wp2
        refine wp_region_held_drew (S := fun w' => Below w4.heap.size w4 w') (by kernel_rfl) (Below.refl _ _).drew (fun hS => ?_)
        refine wpAnyH_take (i := 0) (v := .pointer (some ⟨w.heap.size, 2, none⟩)) rfl (by kernel_rfl) (by kernel_rfl) (by kernel_rfl) (fun _ _ _ h => h) (Or.inl ⟨by kernel_rfl, fun wq hSw => ?_⟩) hS ?_
        · go_simp
        simp only [Act.put, List.getElem_toArray, List.getElem_cons_zero, List.getElem_cons_succ, List.setIfInBounds_toArray, List.set_cons_zero, List.set_cons_succ]
        refine wpAnyH_take (i := 1) (v := .string HS) rfl (by kernel_rfl) (by kernel_rfl) (by kernel_rfl) (fun _ _ _ h => h) (Or.inl ⟨by kernel_rfl, fun wq hSw => ?_⟩) hS ?_
        · have p2 := keep_cell hSw u2; go_simp
        simp only [Act.put, List.getElem_toArray, List.getElem_cons_zero, List.getElem_cons_succ, List.setIfInBounds_toArray, List.set_cons_zero, List.set_cons_succ]
        refine wpAnyH_take (i := 2) (v := .string NM) rfl (by kernel_rfl) (by kernel_rfl) (by kernel_rfl) (fun _ _ _ h => h) (Or.inl ⟨by kernel_rfl, fun wq hSw => ?_⟩) hS ?_
        · go_simp
        simp only [Act.put, List.getElem_toArray, List.getElem_cons_zero, List.getElem_cons_succ, List.setIfInBounds_toArray, List.set_cons_zero, List.set_cons_succ]
        refine wpAnyH_take (i := 4) (v := .int .u32 (W0 : Int)) rfl (by kernel_rfl) (by kernel_rfl) (by kernel_rfl) (fun _ _ _ h => h) (Or.inl ⟨by kernel_rfl, fun wq hSw => ?_⟩) hS ?_
        · go_simp
        simp only [Act.put, List.getElem_toArray, List.getElem_cons_zero, List.getElem_cons_succ, List.setIfInBounds_toArray, List.set_cons_zero, List.set_cons_succ]
        refine wpAnyH_ready (rs := [3]) (by kernel_rfl) (by simp) (AllReadyH.cons rfl (fun K hK => ?_) AllReadyH.nil)
        refine if_yes (by kernel_rfl) ?_
        simp [go_sem]
        refine (K15.out _).mono ?_
        rintro e w6 ⟨rfl, rfl⟩
        refine hK.out _ _ hS (fun _ => ?_)
        clear hK K
        try simp only [Act.put, List.getElem_toArray, List.getElem_cons_zero, List.getElem_cons_succ, List.setIfInBounds_toArray, List.set_cons_zero, List.set_cons_succ]
        refine wpAnyH_take (i := 5) (v := .int .u32 (R0 : Int)) rfl (by kernel_rfl) (by kernel_rfl) (by kernel_rfl) (fun _ _ _ h => h) (Or.inl ⟨by kernel_rfl, fun wq hSw => ?_⟩) hS ?_
        · go_simp
        simp only [Act.put, List.getElem_toArray, List.getElem_cons_zero, List.getElem_cons_succ, List.setIfInBounds_toArray, List.set_cons_zero, List.set_cons_succ]
        refine wpAnyH_take (i := 6) (v := .int .u64 (R0 : Int)) rfl (by kernel_rfl) (by kernel_rfl) (by kernel_rfl) (fun _ _ _ h => h) (Or.inl ⟨by kernel_rfl, fun wq hSw => ?_⟩) hS ?_
        · go_simp
        simp only [Act.put, List.getElem_toArray, List.getElem_cons_zero, List.getElem_cons_succ, List.setIfInBounds_toArray, List.set_cons_zero, List.set_cons_succ]
        refine wpAnyH_take (i := 7) (v := .int .u64 (R2 : Int)) rfl (by kernel_rfl) (by kernel_rfl) (by kernel_rfl) (fun _ _ _ h => h) (Or.inl ⟨by kernel_rfl, fun wq hSw => ?_⟩) hS ?_
        · go_simp
        simp only [Act.put, List.getElem_toArray, List.getElem_cons_zero, List.getElem_cons_succ, List.setIfInBounds_toArray, List.set_cons_zero, List.set_cons_succ]
        refine wpAnyH_ready (rs := [8]) (by kernel_rfl) (by simp) (AllReadyH.cons rfl (fun K hK => ?_) AllReadyH.nil)
        refine if_yes (by kernel_rfl) ?_
        simp [go_sem]
        refine (KR.out _).mono ?_
        rintro e w6 ⟨rfl, rfl⟩
        refine hK.out _ _ hS (fun _ => ?_)
        clear hK K
        try simp only [Act.put, List.getElem_toArray, List.getElem_cons_zero, List.getElem_cons_succ, List.setIfInBounds_toArray, List.set_cons_zero, List.set_cons_succ]
        refine wpAnyH_take (i := 9) (v := .tuple #[.int .u32 (K0 : Int), .bool D0]) rfl (by kernel_rfl) (by kernel_rfl) (by kernel_rfl) (fun _ _ _ h => h) (Or.inl ⟨by kernel_rfl, fun wq hSw => ?_⟩) hS ?_
        · go_simp
        simp only [Act.put, List.getElem_toArray, List.getElem_cons_zero, List.getElem_cons_succ, List.setIfInBounds_toArray, List.set_cons_zero, List.set_cons_succ]
        refine wpAnyH_take (i := 10) (v := .int .u32 (K0 : Int)) rfl (by kernel_rfl) (by kernel_rfl) (by kernel_rfl) (fun _ _ _ h => h) (Or.inl ⟨by kernel_rfl, fun wq hSw => ?_⟩) hS ?_
        · go_simp
        simp only [Act.put, List.getElem_toArray, List.getElem_cons_zero, List.getElem_cons_succ, List.setIfInBounds_toArray, List.set_cons_zero, List.set_cons_succ]
        refine wpAnyH_take (i := 11) (v := .bool D0) rfl (by kernel_rfl) (by kernel_rfl) (by kernel_rfl) (fun _ _ _ h => h) (Or.inl ⟨by kernel_rfl, fun wq hSw => ?_⟩) hS ?_
        · go_simp
        simp only [Act.put, List.getElem_toArray, List.getElem_cons_zero, List.getElem_cons_succ, List.setIfInBounds_toArray, List.set_cons_zero, List.set_cons_succ]
        refine wpAnyH_take (i := 12) (v := .int .u32 (K0 : Int)) rfl (by kernel_rfl) (by kernel_rfl) (by kernel_rfl) (fun _ _ _ h => h) (Or.inl ⟨by kernel_rfl, fun wq hSw => ?_⟩) hS ?_
        · go_simp
        simp only [Act.put, List.getElem_toArray, List.getElem_cons_zero, List.getElem_cons_succ, List.setIfInBounds_toArray, List.set_cons_zero, List.set_cons_succ]
        refine wpAnyH_take (i := 13) (v := .bool D0) rfl (by kernel_rfl) (by kernel_rfl) (by kernel_rfl) (fun _ _ _ h => h) (Or.inl ⟨by kernel_rfl, fun wq hSw => ?_⟩) hS ?_
        · go_simp
        simp only [Act.put, List.getElem_toArray, List.getElem_cons_zero, List.getElem_cons_succ, List.setIfInBounds_toArray, List.set_cons_zero, List.set_cons_succ]
        refine wpAnyH_done (by kernel_rfl) ?_ _
        obtain ⟨wy, hwy⟩ : ∃ z, z = w4.drew := ⟨_, rfl⟩
        rw [← hwy] at hS ⊢
        have H5 : Hid (Below w.heap.size w wy ∧ SlY wy (.slice sa LS.length sc) LS) := ⟨below_tr H3.out.1 hS, H3.out.2.keep hS⟩
        have u2 := keep_cell hS u2
        clear hS hwy u0 u1 K15 KR H3 eR eRt eR2 wR0 wR2
        go_wp2
        go_loopw [11, 10, 9] (fun x y z wr => ∃ (i o : Nat), x = .int .i64 (i : Int) ∧ i ≤ LN + 1 ∧ o < 17179869184 ∧ y = .int .u32 (wAt T.hash (2 + o) : Int) ∧ z = .bool (decide (2 + o < T.hash.length / 4)) ∧ goF T.hash W0 (LN + 1) (isIt LS name) (LN + 1 - i) o = F ∧ Below w.heap.size w wr ∧ Below wy.heap.size wy wr ∧ wr.cell? ⟨w.heap.size, 2, none⟩ = some (.string HS)) (fun x _ _ _ => LN + 1 - (intOf x).toNat)
        case atStart => exact ⟨0, R0, rfl, Nat.zero_le _, by have := HFI.out.2.2; omega, by rw [HK0.out.1], by rw [HK0.out.2], HFI.out.1.symm, H5.out.1, Below.refl _ _, u2⟩
        case round =>
          obtain ⟨i, o, rfl, hi, ho, rfl, rfl, hgo, hbr, hyr, hu⟩ := hrel
          have HB : Hid (Below w.heap.size w wr) := hbr
          have HL2 : Hid (LN ≤ 200) := HLN.out.2
          by_cases hin : i < LN + 1
          · have hii : (i : Int) ≤ (LN : Int) := by omega
            obtain ⟨f, hf⟩ : ∃ f, LN + 1 - i = f + 1 := ⟨LN - i, by omega⟩
            rw [hf] at hgo
            obtain ⟨K, hK⟩ : ∃ z, z = wAt T.hash (2 + o) := ⟨_, rfl⟩
            have hKb : K < 4294967296 := by rw [hK]; exact wAt_lt _ _
            obtain ⟨OK, hOK⟩ : ∃ z, z = decide (2 + o < T.hash.length / 4) := ⟨_, rfl⟩
            rw [← hK, ← hOK]
            cases hok : OK with
            | false =>
              have HZ : Hid (F = 0) := by
                show _ = _
                rw [← hgo]
                exact goF_stop _ _ _ _ _ _ (Or.inl (wAt_no _ _ (by rw [← hOK]; exact hok)))
              clear hgo hbr hf hK hKb hOK hok ho hi hin
              obtain ⟨rfl, rfl⟩ := H0.out HZ.out
              go_wp2
              go_ret2
              exact ⟨rfl, HB.out⟩
            | true =>
              by_cases hk0 : K = 0
              · have HZ : Hid (F = 0) := by
                  show _ = _
                  rw [← hgo]
                  exact goF_stop _ _ _ _ _ _ (Or.inl (by rw [← hK]; exact hk0))
                have kb : ((K : Int) == 0) = true := by rw [hk0]; rfl
                have ke : (K : Int) = 0 := by rw [hk0]; rfl
                clear hgo hbr hf hKb hOK hok ho hi hin hK
                subst hk0
                obtain ⟨rfl, rfl⟩ := H0.out HZ.out
                go_wp2
                go_ret2
                exact ⟨rfl, HB.out⟩
              · have kb : ((K : Int) == 0) = false := by simp; omega
                have ke : ¬ (K : Int) = 0 := by omega
                have wK : IntKind.u64.wrap (K : Int) = (K : Int) := by rw [IntKind.wrap_u64]; omega
                have wL : IntKind.u64.wrap (LN : Int) = (LN : Int) := by rw [IntKind.wrap_u64]; have := HL2.out; omega
                by_cases hkl : LN < K
                · have HZ : Hid (F = 0) := by
                    show _ = _
                    rw [← hgo]
                    exact goF_stop _ _ _ _ _ _ (Or.inr (by rw [← hK]; omega))
                  have kl : (LN : Int) < (K : Int) := by omega
                  have kd := decide_eq_true kl
                  clear hgo hbr hf hKb hOK hok ho hi hin hK
                  obtain ⟨rfl, rfl⟩ := H0.out HZ.out
                  go_wp2
                  go_ret2
                  exact ⟨rfl, HB.out⟩
                · have kl : ¬ (LN : Int) < (K : Int) := by omega
                  have kd := decide_eq_false kl
                  obtain ⟨j, hj⟩ : ∃ j, K = j + 1 := ⟨K - 1, by omega⟩
                  have hjl : j < LS.length := by have := HLN.out.1; omega
                  have hjL : j < LN := by omega
                  have hjLi : (j : Int) < (LN : Int) := by omega
                  have eKj : (K : Int) - 1 = (j : Int) := by omega
                  have wj : (j : Int) % 4294967296 = (j : Int) := by omega
                  have wj2 : IntKind.u32.wrap (j : Int) = (j : Int) := by rw [IntKind.wrap_u32]; exact wj
                  have wj3 := wrapI_nat j (by omega)
                  obtain ⟨ao', cap', he, _, _, _, h4⟩ := H5.out.2.keep hyr
                  injection he with he1 he2 he3
                  obtain ⟨bb, oo, hbo, h5⟩ := h4 j hjl
                  rw [← he1] at hbo
                  obtain ⟨g, hg⟩ : ∃ g, g = LS[j] := ⟨_, rfl⟩
                  have hit := isIt_at LS name K (by omega) (by omega)
                  have hgx : LS[K - 1]'(by omega) = g := by rw [hg]; congr 1; omega
                  rw [hgx] at hit
                  rw [← hg] at h5
                  have hq : ((⟨g.name.toArray⟩ : ByteArray).toList == NM.toList) = (g.name == name) := by rw [bal, HNM.out.1, bal]
                  obtain ⟨W7, hW7, hb8, hz7, q0, q1, q2, q3, q4⟩ := box5 wr g
                  obtain ⟨r0, r1, r2, r3, r4⟩ := h5
                  obtain ⟨GN, hGN⟩ : ∃ z : ByteArray, z = ⟨g.name.toArray⟩ := ⟨_, rfl⟩
                  rw [← hGN] at hq hW7 q0 r0
                  obtain ⟨GP, hGP⟩ : ∃ z, z = g.part := ⟨_, rfl⟩
                  obtain ⟨GB, hGB⟩ : ∃ z, z = g.bind := ⟨_, rfl⟩
                  rw [← hGP, ← hGB] at hit hW7
                  rw [← hGB] at q3 r3
                  rw [← hGP] at q4 r4
                  have HB7 : Hid (Below w.heap.size w W7 ∧ Below wy.heap.size wy W7) := ⟨below_tr HB.out hb8, below_tr hyr hb8⟩
                  have hu7 := keep_cell hb8 hu
                  obtain ⟨E2, hE2⟩ : ∃ z, z = 2 + W0 := ⟨_, rfl⟩
                  obtain ⟨E3, hE3⟩ : ∃ z, z = E2 + K := ⟨_, rfl⟩
                  have hWb := HW0.out.2.2
                  have a2 : (2 : Int) + (W0 : Int) = (E2 : Int) := by omega
                  have a3 : (E2 : Int) + (K : Int) = (E3 : Int) := by omega
                  have wW : IntKind.u64.wrap (W0 : Int) = (W0 : Int) := by rw [IntKind.wrap_u64]; omega
                  have wE2 : IntKind.u64.wrap (E2 : Int) = (E2 : Int) := by rw [IntKind.wrap_u64]; omega
                  have wE3 : IntKind.u64.wrap (E3 : Int) = (E3 : Int) := by rw [IntKind.wrap_u64]; omega
                  have hEE : E3 = 2 + (W0 + K) := by omega
                  have KE : Hid (∀ w', Calls Try.prog 26 #[.string HS, .int .u64 (E3 : Int)] w' fun e w'' => e = .returned (.tuple #[.int .u32 (wAt T.hash (2 + (W0 + K)) : Int), .bool (decide (2 + (W0 + K) < T.hash.length / 4))]) ∧ w'' = w') := fun w' => by
                    have := KN.out E3 w' (by omega)
                    rw [hEE] at this
                    rw [hEE]
                    exact this
                  have hnot : ¬ (wAt T.hash (2 + o) = 0 ∨ LN + 1 ≤ wAt T.hash (2 + o)) := by rw [← hK]; omega
                  have HHIT : Hid (isIt LS name K = true → FA = (j : Int) ∧ FB = true) := fun h => by
                    have e := goF_hit T.hash W0 (LN + 1) (isIt LS name) f o hnot (by rw [← hK]; exact h)
                    rw [hgo, ← hK] at e
                    rw [HFA.out.1, HFA.out.2, e]
                    refine ⟨?_, by simp; omega⟩
                    unfold fdA
                    rw [if_neg (by omega)]
                    omega
                  have HNXT : Hid (isIt LS name K = false → goF T.hash W0 (LN + 1) (isIt LS name) (LN + 1 - (i + 1)) (W0 + K) = F ∧ W0 + K < 17179869184) := fun h => by
                    have e := goF_next T.hash W0 (LN + 1) (isIt LS name) f o hnot (by rw [← hK]; exact h)
                    rw [hgo, ← hK] at e
                    rw [show LN + 1 - (i + 1) = f by omega]
                    exact ⟨e.symm, by omega⟩
                  have HIN : Hid (i < LN + 1) := hin
                  have hib : i ≤ 1000 := by have := HL2.out; omega
                  subst hbo
                  clear hgo hbr hf hKb hOK hok ho hi hin hK hj hjl he1 he2 he3 h4 hg hgx hb8 hz7 hGN hGP hGB hnot hE2 hE3 hEE hWb hyr hu
                  cases hnm : (g.name == name) with
                  | false =>
                    rw [hnm] at hq hit
                    have HH : Hid (isIt LS name K = false) := by rw [Hid, hit]; rfl
                    clear hnm hit
                    go_wp2_with fail
                    refine (KE.out W7).mono ?_
                    rintro e w8 ⟨rfl, rfl⟩
                    go_wp2
                    go_roundw
                    case rel => exact ⟨i + 1, W0 + K, by go_num, HIN.out, (HNXT.out HH.out).2, rfl, rfl, (HNXT.out HH.out).1, HB7.out.1, HB7.out.2, hu7⟩
                    case measure => have := HIN.out; simp [intOf]; omega
                  | true =>
                    rw [hnm] at hq hit
                    by_cases hp : GP = 0
                    · have HH : Hid (isIt LS name K = false) := by rw [Hid, hit, hp]; rfl
                      have hpb : (GP == 0) = true := by simpa using hp
                      have hpn : (GP != 0) = false := by simpa using hp
                      clear hnm hit hp
                      go_wp2_with fail
                      refine (KE.out W7).mono ?_
                      rintro e w8 ⟨rfl, rfl⟩
                      go_wp2
                      go_roundw
                      case rel => exact ⟨i + 1, W0 + K, by go_num, HIN.out, (HNXT.out HH.out).2, rfl, rfl, (HNXT.out HH.out).1, HB7.out.1, HB7.out.2, hu7⟩
                      case measure => have := HIN.out; simp [intOf]; omega
                    · have hpb : (GP == 0) = false := by simpa using hp
                      have hpn : (GP != 0) = true := by simpa using hp
                      by_cases hbd : GB = 0
                      · have HH : Hid (isIt LS name K = false) := by rw [Hid, hit, hpn, hbd]; rfl
                        have hbb : (GB == 0) = true := by simpa using hbd
                        have hbn : (GB != 0) = false := by simpa using hbd
                        clear hnm hit hp hbd
                        go_wp2_with fail
                        refine (KE.out W7).mono ?_
                        rintro e w8 ⟨rfl, rfl⟩
                        go_wp2
                        go_roundw
                        case rel => exact ⟨i + 1, W0 + K, by go_num, HIN.out, (HNXT.out HH.out).2, rfl, rfl, (HNXT.out HH.out).1, HB7.out.1, HB7.out.2, hu7⟩
                        case measure => have := HIN.out; simp [intOf]; omega
                      · have hbb : (GB == 0) = false := by simpa using hbd
                        have hbn : (GB != 0) = true := by simpa using hbd
                        have HH : Hid (isIt LS name K = true) := by rw [Hid, hit, hpn, hbn]; rfl
                        obtain ⟨e1, e2⟩ := HHIT.out HH.out
                        clear hnm hit hp hbd HHIT HFA H0
                        subst e1 e2
                        go_wp2
                        go_ret2
                        exact ⟨rfl, HB7.out.1⟩
          · have HZ : Hid (F = 0) := by
              show _ = _
              rw [← hgo, show LN + 1 - i = 0 by omega]
              rfl
            have hii : ¬ (i : Int) ≤ (LN : Int) := by omega
            clear hgo hbr ho hi hin
            obtain ⟨rfl, rfl⟩ := H0.out HZ.out
            go_wp2
            go_ret2
            exact ⟨rfl, HB.out⟩
end Go.Proofs.Ytmkfgoacbehhcaa
