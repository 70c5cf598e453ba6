/- What is proved here: the ways to look for names, as bytes: the document's. -/
import Derived.Test.YtmkfgoacbehhcaaNm
import Derived.Test.YtmkfgoacbehhcaaNk
import Derived.Test.YtmkfgoacbehhcaaNe
import Derived.Test.YtmkfgoacbehhcaaNc
namespace Go.Proofs.Ytmkfgoacbehhcaa
open Go.RowKit
set_option linter.unusedVariables false
set_option linter.unusedSimpArgs false
set_option maxRecDepth 100000
attribute [local go_sem] Oper.semAt_some
theorem flat_take (xs : List Nat) (k : Nat) (h : k < xs.length) : (xs.take (k + 1)).flatMap (bN 4) = (xs.take k).flatMap (bN 4) ++ bN 4 xs[k] := by
  rw [List.take_succ_eq_append_getElem h, List.flatMap_append]
  simp
theorem flat_le (xs : List Nat) (k n : Nat) (h : xs.length ≤ n) : ((xs.take k).flatMap (bN 4)).length ≤ 4 * n := by
  rw [flat4_len, List.length_take]
  omega
theorem b4_size (x : Nat) : (⟨(bN 4 x).toArray⟩ : ByteArray).size = 4 := by show (bN 4 x).toArray.size = 4; simp [bN_len]
set_option maxHeartbeats 4000000 in
theorem hashes31 (l : List Sy) (v : Value) (ways : Nat) (w : World) (hs : SlY w v l) (hfit : ∀ s ∈ l, FitY s) (hl : l.length ≤ 200) (h1 : 1 ≤ ways) (h64 : ways ≤ 64) :
    Calls Try.prog 31 #[v, .int .i64 (ways : Int)] w fun e w' => e = .returned (.string ⟨(hashB l ways).toArray⟩) ∧ Below w.heap.size w w' := by
  obtain ⟨ao, cap, rfl, s1, s2, s3, s4⟩ := hs
  have HS : Hid (∀ i (h : i < l.length), ∃ b o, ao = some ⟨b, o, none⟩ ∧ At5 w b (o + i * 5) l[i]) := s4
  have HFT : Hid ((∀ s ∈ l, FitY s) ∧ l.length ≤ 200) := ⟨hfit, hl⟩
  clear s3 s4 hfit
  obtain ⟨L1, hL1⟩ : ∃ E, E = l.length + 1 := ⟨_, rfl⟩
  have eL : (l.length : Int) + 1 = (L1 : Int) := by omega
  have hmk := mkRowU ways (by omega) w
  obtain ⟨W1, hW1⟩ : ∃ z, w.alloc (.cells ((List.replicate ways 0).map u32C).toArray 35) = z := ⟨_, rfl⟩
  have r1 : RowU W1 w.heap.size (List.replicate ways 0) := by rw [← hW1]; exact RowU.new ways w
  have hb1 : Below w.heap.size w W1 := by rw [← hW1]; exact (Below.refl _ _).alloc (Nat.le_refl _) _
  have hz1 : W1.heap.size = w.heap.size + 1 := by rw [← hW1]; simp
  rw [hW1] at hmk
  have hmk2 := mkRowU L1 (by omega) W1
  obtain ⟨W2, hW2⟩ : ∃ z, W1.alloc (.cells ((List.replicate L1 0).map u32C).toArray 35) = z := ⟨_, rfl⟩
  have r2 : RowU W2 (w.heap.size + 1) (List.replicate L1 0) := by rw [← hW2, ← hz1]; exact RowU.new L1 W1
  have hb2 : Below W1.heap.size W1 W2 := by rw [← hW2]; exact (Below.refl _ _).alloc (Nat.le_refl _) _
  rw [hW2, hz1] at hmk2
  have H2 : Hid (RowU W2 w.heap.size (firstL l ways l.length) ∧ RowU W2 (w.heap.size + 1) (nextL l ways l.length) ∧ Below w.heap.size w W2) := ⟨by rw [first_end]; exact r1.keep hb2, by rw [next_end, ← hL1]; exact r2, below_tr hb1 hb2⟩
  have HNN : Hid (L1 = l.length + 1) := hL1
  have wi : (ways : Int) % 4294967296 = (ways : Int) := by omega
  have wi2 : IntKind.u32.wrap (ways : Int) = (ways : Int) := by rw [IntKind.wrap_u32]; exact wi
  have li : (L1 : Int) % 4294967296 = (L1 : Int) := by omega
  have wl : (ways : Int) ≤ 64 := by omega
  have ll : (l.length : Int) ≤ 200 := by omega
  have hw0 : ((ways : Int) == 0) = false := by simp; omega
  have wne : ¬ (ways : Int) = 0 := by omega
  clear r1 r2 hb1 hb2 hL1 hz1 hW1 hW2
  go_enter Try.func31, Try.ntmps31
  go_wp2
  clear hmk hmk2
  go_loopw [7] (fun x wr => ∃ k : Nat, x = .int .i64 ((k : Int) - 1) ∧ k ≤ l.length ∧ RowU wr w.heap.size (firstL l ways k) ∧ RowU wr (w.heap.size + 1) (nextL l ways k) ∧ Below w.heap.size w wr) (fun x _ => (intOf x + 1).toNat)
  case atStart => exact ⟨l.length, rfl, Nat.le_refl _, H2.out.1, H2.out.2.1, H2.out.2.2⟩
  case round =>
    obtain ⟨k, hxk, hk, hR, hX, hbr⟩ := hrel
    by_cases h0 : k = 0
    · subst h0
      rw [show (((0 : Nat) : Int) - 1) = -1 from rfl] at hxk
      subst hxk
      obtain ⟨F, hF⟩ : ∃ F, F = firstL l ways 0 := ⟨_, rfl⟩
      obtain ⟨X, hX0⟩ : ∃ X, X = nextL l ways 0 := ⟨_, rfl⟩
      rw [← hF] at hR
      rw [← hX0] at hX
      have HF : Hid (F.length = ways ∧ X.length = L1 ∧ (∀ x ∈ F, x < 4294967296) ∧ (∀ x ∈ X, x < 4294967296) ∧ hashB l ways = bN 4 ways ++ (bN 4 L1 ++ (F.flatMap (bN 4) ++ X.flatMap (bN 4)))) := by
        refine ⟨by rw [hF, first_len], by rw [hX0, next_len, HNN.out], fun x hx => ?_, fun x hx => ?_, ?_⟩
        · rw [hF] at hx
          have := first_lt l ways 0 (Nat.zero_le _) x hx
          have := HFT.out.2
          omega
        · rw [hX0] at hx
          have := next_lt l ways 0 x hx
          have := HFT.out.2
          omega
        · unfold hashB numsAt
          rw [← hF, ← hX0, ← HNN.out]
          simp [List.flatMap_append]
      have K1 := rword37 ways (by omega) wr
      have K2 : Hid (∀ w', Calls Try.prog 37 #[.int .u32 (L1 : Int)] w' fun e w'' => e = .returned (.string ⟨(bN 4 L1).toArray⟩) ∧ Below w'.heap.size w' w'') := fun w' => rword37 L1 (by have := HNN.out; have := HFT.out.2; omega) w'
      have HB0 : Hid (Below w.heap.size w wr ∧ RowU wr w.heap.size F ∧ RowU wr (w.heap.size + 1) X) := ⟨hbr, hR, hX⟩
      obtain ⟨XA, hXA⟩ : ∃ z : ByteArray, z = ⟨(bN 4 ways).toArray⟩ := ⟨_, rfl⟩
      obtain ⟨XB, hXB⟩ : ∃ z : ByteArray, z = ⟨(bN 4 L1).toArray⟩ := ⟨_, rfl⟩
      have HCS : Hid (¬ 9223372036854775807 < XA.size + XB.size) := by show ¬ _; rw [hXA, hXB, b4_size, b4_size]; omega
      have HAB : Hid (XA ++ XB = ⟨(bN 4 ways ++ (bN 4 L1 ++ (F.take 0).flatMap (bN 4))).toArray⟩) := by show _ = _; rw [hXA, hXB, ba_app]; simp
      rw [← hXA] at K1
      rw [← hXB] at K2
      clear hR hX hbr hF hX0 hXA hXB
      go_wp2_with fail
      refine K1.mono ?_
      rintro e w3 ⟨rfl, hb3⟩
      clear K1
      go_wp2_with fail
      refine (K2.out w3).mono ?_
      rintro e w4 ⟨rfl, hb4⟩
      have HB4 : Hid (Below w.heap.size w w4 ∧ RowU w4 w.heap.size F ∧ RowU w4 (w.heap.size + 1) X) := ⟨below_tr (below_tr HB0.out.1 hb3) hb4, (HB0.out.2.1.keep hb3).keep hb4, (HB0.out.2.2.keep hb3).keep hb4⟩
      clear K2 hb3 hb4 HB0
      go_wp2_with fail
      clear HCS
      rw [HAB.out]
      go_wp2
      generalize w4 = wo at HB4 ⊢
      have hFl := HF.out.1
      have hXl := HF.out.2.1
      go_loopw [10, 9] (fun x y wr => ∃ k : Nat, x = .int .i64 (k : Int) ∧ k ≤ ways ∧ y = .string ⟨(bN 4 ways ++ (bN 4 L1 ++ (F.take k).flatMap (bN 4))).toArray⟩ ∧ Below wo.heap.size wo wr) (fun x _ _ => ways - (intOf x).toNat)
      case atStart => exact ⟨0, rfl, Nat.zero_le _, rfl, Below.refl _ _⟩
      case round =>
        obtain ⟨k, rfl, hk, rfl, hbz⟩ := hrel
        by_cases hlt : k < ways
        · have hlF : k < F.length := by omega
          obtain ⟨x, hx⟩ : ∃ x, x = F[k] := ⟨_, rfl⟩
          have c0 := keep_cell hbz (HB4.out.2.1.cell k x (by rw [hx]; exact List.getElem?_eq_getElem hlF))
          have KX := rword37 x (HF.out.2.2.1 x (by rw [hx]; exact List.getElem_mem hlF)) wr
          have HT : Hid ((⟨(bN 4 ways ++ (bN 4 L1 ++ (F.take k).flatMap (bN 4))).toArray⟩ : ByteArray) ++ ⟨(bN 4 x).toArray⟩ = ⟨(bN 4 ways ++ (bN 4 L1 ++ (F.take (k + 1)).flatMap (bN 4))).toArray⟩) := by
            show _ = _
            rw [ba_app, flat_take F k hlF, hx, List.append_assoc, List.append_assoc]
          have HCS : Hid (¬ 9223372036854775807 < (⟨(bN 4 ways ++ (bN 4 L1 ++ (F.take k).flatMap (bN 4))).toArray⟩ : ByteArray).size + (⟨(bN 4 x).toArray⟩ : ByteArray).size) := by
            show ¬ _
            rw [b4_size, ← bt_len, bal, List.length_append, List.length_append, bN_len, bN_len]
            have := flat_le F k 64 (by omega)
            omega
          obtain ⟨SA, hSA⟩ : ∃ z : ByteArray, z = ⟨(bN 4 ways ++ (bN 4 L1 ++ (F.take k).flatMap (bN 4))).toArray⟩ := ⟨_, rfl⟩
          obtain ⟨SX, hSX⟩ : ∃ z : ByteArray, z = ⟨(bN 4 x).toArray⟩ := ⟨_, rfl⟩
          rw [← hSA] at HT HCS ⊢
          rw [← hSX] at HT HCS KX
          have hki : (k : Int) < (ways : Int) := by omega
          have HBZ : Hid (Below wo.heap.size wo wr) := hbz
          clear hx hSA hSX hbz hlF
          go_wp2_with fail
          refine KX.mono ?_
          rintro e w5 ⟨rfl, hb5⟩
          have HB5 : Hid (Below wo.heap.size wo w5) := below_tr HBZ.out hb5
          clear KX c0 hb5
          go_wp2_with fail
          clear HCS
          rw [HT.out]
          go_wp2
          go_roundw
          case rel =>
            refine ⟨_, _, _, _, _, _, _, _, _, _, _, _, _, _, _, ⟨k + 1, ?_, by omega, ?_, HB5.out⟩, rfl⟩
            · go_num
            · rfl
          case measure => first | (simp [intOf]; done) | (simp [intOf]; omega)
        · have hkw : k = ways := by omega
          subst hkw
          have hki : ¬ (k : Int) < (k : Int) := by omega
          have htF : F.take k = F := List.take_of_length_le (by have := HF.out.1; omega)
          rw [htF]
          have HB5 : Hid (Below w.heap.size w wr ∧ RowU wr (w.heap.size + 1) X) := ⟨below_tr HB4.out.1 hbz, HB4.out.2.2.keep hbz⟩
          have H0 : Hid ((⟨(bN 4 k ++ (bN 4 L1 ++ F.flatMap (bN 4))).toArray⟩ : ByteArray) = ⟨(bN 4 k ++ (bN 4 L1 ++ (F.flatMap (bN 4) ++ (X.take 0).flatMap (bN 4)))).toArray⟩) := by show _ = _; simp
          clear hbz
          go_wp2
          generalize wr = wu at HB5 ⊢
          go_loopw [11, 9] (fun x y wr => ∃ m : Nat, x = .int .i64 (m : Int) ∧ m ≤ L1 ∧ y = .string ⟨(bN 4 k ++ (bN 4 L1 ++ (F.flatMap (bN 4) ++ (X.take m).flatMap (bN 4)))).toArray⟩ ∧ Below wu.heap.size wu wr) (fun x _ _ => L1 - (intOf x).toNat)
          case atStart => exact ⟨0, rfl, Nat.zero_le _, by rw [← H0.out], Below.refl _ _⟩
          case round =>
            obtain ⟨m, rfl, hm, rfl, hbz⟩ := hrel
            by_cases hlt2 : m < L1
            · have hlF : m < X.length := by omega
              obtain ⟨x, hx⟩ : ∃ x, x = X[m] := ⟨_, rfl⟩
              have c0 := keep_cell hbz (HB5.out.2.cell m x (by rw [hx]; exact List.getElem?_eq_getElem hlF))
              have KX := rword37 x (HF.out.2.2.2.1 x (by rw [hx]; exact List.getElem_mem hlF)) wr
              have HT : Hid ((⟨(bN 4 k ++ (bN 4 L1 ++ (F.flatMap (bN 4) ++ (X.take m).flatMap (bN 4)))).toArray⟩ : ByteArray) ++ ⟨(bN 4 x).toArray⟩ = ⟨(bN 4 k ++ (bN 4 L1 ++ (F.flatMap (bN 4) ++ (X.take (m + 1)).flatMap (bN 4)))).toArray⟩) := by
                show _ = _
                rw [ba_app, flat_take X m hlF, hx, List.append_assoc, List.append_assoc, List.append_assoc]
              have HCS : Hid (¬ 9223372036854775807 < (⟨(bN 4 k ++ (bN 4 L1 ++ (F.flatMap (bN 4) ++ (X.take m).flatMap (bN 4)))).toArray⟩ : ByteArray).size + (⟨(bN 4 x).toArray⟩ : ByteArray).size) := by
                show ¬ _
                rw [b4_size, ← bt_len, bal, List.length_append, List.length_append, List.length_append, bN_len, bN_len, flat4_len F]
                have := flat_le X m 201 (by have := HNN.out; omega)
                omega
              obtain ⟨SA, hSA⟩ : ∃ z : ByteArray, z = ⟨(bN 4 k ++ (bN 4 L1 ++ (F.flatMap (bN 4) ++ (X.take m).flatMap (bN 4)))).toArray⟩ := ⟨_, rfl⟩
              obtain ⟨SX, hSX⟩ : ∃ z : ByteArray, z = ⟨(bN 4 x).toArray⟩ := ⟨_, rfl⟩
              rw [← hSA] at HT HCS ⊢
              rw [← hSX] at HT HCS KX
              have hmi : (m : Int) < (L1 : Int) := by omega
              have HBZ : Hid (Below wu.heap.size wu wr) := hbz
              clear hx hSA hSX hbz hlF
              go_wp2_with fail
              refine KX.mono ?_
              rintro e w5 ⟨rfl, hb5⟩
              have HB6 : Hid (Below wu.heap.size wu w5) := below_tr HBZ.out hb5
              clear KX c0 hb5
              go_wp2_with fail
              clear HCS
              rw [HT.out]
              go_wp2
              go_roundw
              case rel => exact ⟨m + 1, by go_num, by omega, rfl, HB6.out⟩
              case measure => first | (simp [intOf]; done) | (simp [intOf]; omega)
            · have hmi : ¬ (m : Int) < (L1 : Int) := by omega
              have htX : X.take m = X := List.take_of_length_le (by have := HF.out.2.1; omega)
              rw [htX, ← HF.out.2.2.2.2]
              have HB6 : Hid (Below w.heap.size w wr) := below_tr HB5.out.1 hbz
              clear hbz
              go_wp2
              go_ret
              exact ⟨rfl, HB6.out⟩
    · obtain ⟨j, rfl⟩ : ∃ j, k = j + 1 := ⟨k - 1, by omega⟩
      rw [show (((j + 1 : Nat) : Int) - 1) = (j : Int) by omega] at hxk
      subst hxk
      have hjl : j < l.length := by omega
      have hway := way_at l ways j hjl
      obtain ⟨Wn, hWn⟩ : ∃ z, z = wayN l ways (j + 1) := ⟨_, rfl⟩
      rw [← hWn] at hway
      have hWlt : Wn < ways := by rw [hway]; exact Nat.mod_lt _ (by omega)
      have hxn := next_step l ways j hjl (by omega)
      have hxf := first_step l ways j hjl
      rw [← hWn] at hxn hxf
      have hfl : Wn < (firstL l ways (j + 1)).length := by rw [first_len]; exact hWlt
      obtain ⟨x, hx⟩ : ∃ x, (firstL l ways (j + 1))[Wn]? = some x := ⟨_, List.getElem?_eq_getElem hfl⟩
      rw [List.getD_eq_getElem?_getD, hx] at hxn
      obtain ⟨y, hy⟩ : ∃ y, (nextL l ways (j + 1))[j + 1]? = some y := ⟨_, List.getElem?_eq_getElem (by rw [next_len]; omega)⟩
      obtain ⟨b, o, rfl, h7⟩ := HS.out j hjl
      have h7 := h7.keep hbr
      obtain ⟨g, hg⟩ : ∃ g, g = l[j] := ⟨_, rfl⟩
      rw [← hg] at h7 hway
      have hft := HFT.out.1 g (by rw [hg]; exact List.getElem_mem hjl)
      have K15 := rhash15 ⟨g.name.toArray⟩ (by show g.name.toArray.size ≤ 1000000; rw [List.size_toArray]; have := hft.2.1; omega) wr
      rw [bal] at K15
      obtain ⟨H, hH⟩ : ∃ H, H = hashL g.name := ⟨_, rfl⟩
      rw [← hH] at K15 hway
      have r0 := h7.1
      have eH : (H : Int) % (ways : Int) = (Wn : Int) := by rw [hway]; exact (Int.natCast_emod _ _).symm
      have eH2 : (H : Int).tmod (ways : Int) = (Wn : Int) := by rw [hway]; exact (Int.ofNat_tmod _ _).symm
      obtain ⟨K, hK⟩ : ∃ K, K = j + 1 := ⟨_, rfl⟩
      have ejk : (j : Int) + 1 = (K : Int) := by omega
      have ek2 : (K : Int) % 4294967296 = (K : Int) := by omega
      have jL : (j : Int) < (l.length : Int) := by omega
      have kL : K < L1 := by have := HNN.out; omega
      have kLi : (K : Int) < (L1 : Int) := by omega
      have Wi : (Wn : Int) < (ways : Int) := by omega
      have j0 : (0 : Int) ≤ (j : Int) := by omega
      rw [← hK] at hx hy hxn hxf
      have hR' := hR
      have hX' := hX
      rw [← hK] at hR' hX'
      have d1 := hR'.cell Wn x hx
      have d2 := hX'.cell K y hy
      have f2 := hX'.frozen K
      obtain ⟨W5, hW5⟩ : ∃ z, wr.setCell ⟨w.heap.size + 1, K, none⟩ (.int .u32 (x : Int)) = z := ⟨_, rfl⟩
      have g5 : wr.grownBy W5 (some (w.heap.size + 1)) := by rw [← hW5]; exact grown_setk _ _ _ _
      have r5 : RowU W5 (w.heap.size + 1) ((nextL l ways K).set K x) := by rw [← hW5]; exact hX'.set _ _
      have q5 : RowU W5 w.heap.size (firstL l ways K) := hR'.row g5 (by intro e; injection e with e; omega)
      have f3 := q5.frozen Wn
      have d3 := q5.cell Wn x hx
      obtain ⟨W6, hW6⟩ : ∃ z, W5.setCell ⟨w.heap.size, Wn, none⟩ (.int .u32 (K : Int)) = z := ⟨_, rfl⟩
      have g6 : W5.grownBy W6 (some w.heap.size) := by rw [← hW6]; exact grown_setk _ _ _ _
      have HE : Hid (RowU W6 w.heap.size (firstL l ways j) ∧ RowU W6 (w.heap.size + 1) (nextL l ways j) ∧ Below w.heap.size w W6) := by
        refine ⟨?_, ?_, ?_⟩
        · rw [hxf, ← hW6]; exact q5.set _ _
        · rw [hxn]; exact r5.row g6 (by intro e; injection e with e; omega)
        · rw [← hW6, ← hW5]
          exact (hbr.setCell (p := ⟨w.heap.size + 1, K, none⟩) (Nat.le_succ _) _).setCell (p := ⟨w.heap.size, Wn, none⟩) (Nat.le_refl _) _
      have hjL : Hid (j ≤ l.length) := by show _ ≤ _; omega
      clear hR hX hR' hX' hbr hx hxn hxf hway hWn h7 hg hft hH hy r5 q5 g5 g6 hfl hK
      go_wp2_with fail
      refine K15.mono ?_
      rintro e w1 ⟨rfl, rfl⟩
      clear K15
      go_wp2
      go_roundw
      case rel => exact ⟨j, by go_num, hjL.out, HE.out.1, HE.out.2.1, HE.out.2.2⟩
      case measure => first | (simp [intOf]; done) | (simp [intOf]; omega)
end Go.Proofs.Ytmkfgoacbehhcaa
