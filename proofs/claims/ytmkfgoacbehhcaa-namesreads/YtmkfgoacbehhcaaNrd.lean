/- What is proved here: the symbols of a table: the document's Read. -/
import Derived.Test.YtmkfgoacbehhcaaNo
import Derived.Test.YtmkfgoacbehhcaaNa19
import Derived.Test.YtmkfgoacbehhcaaNh
import Derived.Test.YtmkfgoacbehhcaaNp
import Derived.OrdersHeld
namespace Go.Proofs.Ytmkfgoacbehhcaa
open Go.RowKit
set_option linter.unusedVariables false
set_option linter.unusedSimpArgs false
set_option maxRecDepth 100000
attribute [local go_sem] Oper.semAt_some
theorem hix_at (S : ByteArray) (row : L8) (hSl : S.toList = row) (i : Nat) (h : i < row.length) (hi : i < 4294967296) (wx : World) : (Instr.index 9 (.string S) (.int .i64 (i : Int))).run Try.prog wx = .ok (.int .u8 (((row.drop i).headD 0).toNat : Int)) wx := by
  have hl : i < S.size := by rw [← bt_len, hSl]; exact h
  have hl2 : i < S.toList.length := by rw [bt_len]; exact hl
  have e : S[i] = (row.drop i).headD 0 := by
    rw [bt_get S i hl hl2, List.headD_eq_head?_getD, List.head?_drop, ← hSl, List.getElem?_eq_getElem hl2]; rfl
  rw [run_index_string wx 9 S .i64 i Try.underlying9]
  have hli : (i : Int) < (S.size : Int) := by omega
  simp [hli, e]
theorem rowsR_snoc (t : Tb) (n : Nat) (h : rowsR t n = true) : rowsR t (n + 1) = okR t.strs (rowAt t.syms (n + 1)) := by
  unfold rowsR at h ⊢
  rw [List.range_succ, List.all_append, h]
  simp
theorem rowsR_no (t : Tb) (n m : Nat) (h : okR t.strs (rowAt t.syms (n + 1)) = false) (hm : n < m) : rowsR t m = false := by
  unfold rowsR
  rw [List.all_eq_false]
  exact ⟨n, List.mem_range.2 hm, by rw [h]; decide⟩
theorem symsRL_len (t : Tb) (n : Nat) : (symsRL t n).length = n := by unfold symsRL; simp
theorem symsRL_snoc (t : Tb) (n : Nat) : symsRL t (n + 1) = symsRL t n ++ [symR t.strs (rowAt t.syms (n + 1))] := by unfold symsRL; rw [List.range_succ, List.map_append]; rfl
theorem allR_snoc (t : Tb) (n : Nat) : allR t (n + 1) = allR t n ++ rowR t.strs (rowAt t.syms (n + 1)) := by
  unfold allR
  rw [List.range_succ, List.flatMap_append, ← List.append_assoc]
  simp
theorem allR_len (t : Tb) (n : Nat) : (allR t n).length = 16 * (n + 1) := by
  induction n with
  | zero => rfl
  | succ n ih => rw [allR_snoc, List.length_append, ih]; unfold rowR; rw [rowB_len]; omega
set_option maxHeartbeats 8000000 in
theorem rread10 (T : Tb) (hl1 : T.syms.length ≤ 1000000) (hl2 : T.strs.length ≤ 1000000) (w : World) :
    Calls Try.prog 10 #[T.val] w fun e w' => (∃ v, e = .returned (.tuple #[v, .int .i64 (errN T)]) ∧ OwnY w.heap.size w' v (readL T)) ∧ Below w.heap.size w w' := by
  obtain ⟨S, hS0⟩ : ∃ S : ByteArray, S = ⟨T.syms.toArray⟩ := ⟨_, rfl⟩
  have hSl : S.toList = T.syms := by rw [hS0]; exact bal _
  have hsz : S.size = T.syms.length := by rw [← bt_len, hSl]
  have hm : S.size ≤ 1000000 := by omega
  obtain ⟨Q, hQ0⟩ : ∃ S : ByteArray, S = ⟨T.strs.toArray⟩ := ⟨_, rfl⟩
  obtain ⟨W1, hW1, hb1, hz1, h31⟩ := box3 w T
  have H1 : Hid (Below w.heap.size w W1 ∧ T3 T w.heap.size W1 ∧ W1.heap.size = w.heap.size + 1) := ⟨hb1, h31, hz1⟩
  obtain ⟨q0, q1, q2⟩ := h31.cells
  unfold Tb.val
  rw [← hS0, ← hQ0] at hW1 ⊢
  rw [← hS0] at q0
  rw [← hQ0] at q1
  generalize (⟨T.hash.toArray⟩ : ByteArray) = HB0 at hW1 q2 ⊢
  have HN : Hid (∀ w', readE T = false → Below w.heap.size w w' → (∃ v, Ending.returned (.tuple #[.slice none 0 0, .int .i64 103]) = .returned (.tuple #[v, .int .i64 (errN T)]) ∧ OwnY w.heap.size w' v (readL T)) ∧ Below w.heap.size w w') := fun w' h hb => ⟨⟨_, by rw [err_no h], by rw [readL_no h]; exact ⟨by simp, Or.inl ⟨rfl, rfl⟩⟩⟩, hb⟩
  clear hb1 hz1 h31
  obtain ⟨N, hN⟩ : ∃ N, N = S.size / 16 := ⟨_, rfl⟩
  have eN : (S.size : Int) / 16 = (N : Int) := by omega
  have eN2 : (S.size : Int).tdiv 16 = (N : Int) := by rw [Int.tdiv_eq_ediv_of_nonneg (by omega)]; exact eN
  have eN3 := wrap64_nat N (by omega)
  have eN4 := wrapI_nat N (by omega)
  by_cases g1 : S.size % 16 = 0
  · have e1 : (S.size : Int).tmod 16 = 0 := (Int.ofNat_tmod S.size 16).symm.trans (by rw [g1]; rfl)
    have e1' : (S.size : Int) % 16 = 0 := by omega
    by_cases g2 : N < 1
    · have e2 : (N : Int) < 1 := by omega
      have d2 := decide_eq_true e2
      have HR : Hid (readE T = false) := read_no1 (by unfold lenOk; exact decide_eq_false (by omega))
      clear hS0 hSl hsz hl1 hl2 hQ0 hN g2
      go_enter Try.func10, Try.ntmps10
      go_wp2
      go_ret2
      exact HN.out _ HR.out H1.out.1
    · have e2 : ¬ (N : Int) < 1 := by omega
      have d2 := decide_eq_false e2
      by_cases g3 : 201 < N
      · have e3 : (201 : Int) < (N : Int) := by omega
        have d3 := decide_eq_true e3
        have HR : Hid (readE T = false) := read_no1 (by unfold lenOk; exact decide_eq_false (by omega))
        clear hS0 hSl hsz hl1 hl2 hQ0 hN g2 g3
        go_enter Try.func10, Try.ntmps10
        go_wp2
        go_ret2
        exact HN.out _ HR.out H1.out.1
      · have e3 : ¬ (201 : Int) < (N : Int) := by omega
        have d3 := decide_eq_false e3
        have HLEN : Hid (lenOk T = true) := by show _ = _; unfold lenOk; exact decide_eq_true (by omega)
        obtain ⟨hc1, hc2⟩ := len_parts HLEN.out
        have HC : Hid (S.size = 16 * (cntN T + 1) ∧ cntN T ≤ 200 ∧ N = cntN T + 1) := ⟨by rw [hsz]; exact hc1, hc2, by omega⟩
        have HSL : Hid (S.toList = T.syms ∧ Q = ⟨T.strs.toArray⟩ ∧ T.strs.length ≤ 1000000 ∧ S.size ≤ 1000000) := ⟨hSl, hQ0, hl2, hm⟩
        obtain ⟨B, hB⟩ : ∃ B, B = W1.heap.size := ⟨_, rfl⟩
        have HBB : Hid (B = w.heap.size + 1) := by rw [hB]; exact H1.out.2.2
        obtain ⟨W2, hW2⟩ : ∃ z, W1.alloc (.cells (zero16.map W.byteC).toArray 5) = z := ⟨_, rfl⟩
        have hmk := mk16 W1
        rw [hW2, ← hB] at hmk
        have hrow : W.RowAt W2 B (zero16.map W.byteC) := by rw [← hW2, hB]; exact World.alloc_heap_new W1 _
        have hcv : (convert 46 9 (.slice (some ⟨B, 0, none⟩) 16 16)).run Try.prog W2 = .ok (.string ⟨zero16.toArray⟩) W2 := W.conv_row W2 B 16 zero16 hrow
        have hb2 : Below W1.heap.size W1 W2 := by rw [← hW2]; exact (Below.refl _ _).alloc (Nat.le_refl _) _
        have H2 : Hid (Below w.heap.size w W2 ∧ T3 T w.heap.size W2 ∧ B ≤ W2.heap.size) := ⟨below_tr H1.out.1 hb2, H1.out.2.1.keep hb2, by rw [hB]; exact hb2.size⟩
        have hz0 : allR T 0 = zero16 := by unfold allR; simp
        rw [← hz0] at hcv
        generalize hZA : (⟨(allR T 0).toArray⟩ : ByteArray) = ZA at hcv
        have HZA : Hid ((⟨(allR T 0).toArray⟩ : ByteArray) = ZA) := hZA
        clear hS0 hSl hsz hl1 hl2 hQ0 hN g2 g3 hc1 hc2 hB hW2 hb2 hrow hz0 hZA hm
        go_enter Try.func10, Try.ntmps10
        go_wp2
        clear q0 q1 q2 hW1 hmk hcv
        go_loopw [5, 6, 7] (fun y z x wr => ∃ (k : Nat) (sa : Option Addr) (sc : Nat), x = .int .i64 ((k + 1 : Nat) : Int) ∧ y = .slice sa k sc ∧ z = .string ⟨(allR T k).toArray⟩ ∧ k ≤ cntN T ∧ rowsR T k = true ∧ OwnY B wr (.slice sa k sc) (symsRL T k) ∧ T3 T w.heap.size wr ∧ Below w.heap.size w wr ∧ B ≤ wr.heap.size) (fun _ _ x _ => N - (intOf x).toNat)
        case atStart => exact ⟨0, none, 0, rfl, rfl, by rw [HZA.out], Nat.zero_le _, rfl, ⟨by simp [symsRL], Or.inl ⟨rfl, by simp [symsRL]⟩⟩, H2.out.2.1, H2.out.1, H2.out.2.2⟩
        case round =>
          obtain ⟨k, sa, sc, rfl, rfl, rfl, hk, hok, hO, h3, hbr, hsB⟩ := hrel
          obtain ⟨I, hI⟩ : ∃ z, z = k + 1 := ⟨_, rfl⟩
          rw [← hI]
          obtain ⟨q0, q1, q2⟩ := h3.cells
          have hSx : (⟨T.syms.toArray⟩ : ByteArray) = S := by rw [← HSL.out.1, ByteArray.toList_eq]
          rw [hSx] at q0
          rw [← HSL.out.2.1] at q1
          have HOK : Hid (rowsR T k = true) := hok
          have HO : Hid (OwnY B wr (.slice sa k sc) (symsRL T k)) := hO
          have HT3 : Hid (T3 T w.heap.size wr) := h3
          have HB : Hid (Below w.heap.size w wr) := hbr
          have HSZ : Hid (B ≤ wr.heap.size) := hsB
          have HIK : Hid (I = k + 1) := hI
          by_cases hlt : k < cntN T
          · have HKC : Hid (k < cntN T) := hlt
            have hIN : (I : Int) < (N : Int) := by have := HC.out.2.2; omega
            obtain ⟨A1, hA1⟩ : ∃ z, z = 16 * (k + 1) := ⟨_, rfl⟩
            have eA0 : 16 * (I : Int) = (A1 : Int) := by omega
            have hl1 : A1 < S.size := by have := HC.out.1; omega
            have hl1i : (A1 : Int) < (S.size : Int) := by omega
            obtain ⟨A2, hA2⟩ : ∃ z, z = A1 + 16 := ⟨_, rfl⟩
            have hl2 : A2 ≤ S.size := by have := HC.out.1; omega
            have hl2i : (A2 : Int) ≤ (S.size : Int) := by omega
            have hl3 : A1 ≤ A2 := by omega
            have hl3i : (A1 : Int) ≤ (A2 : Int) := by omega
            have eA : (A1 : Int) + 16 = (A2 : Int) := by omega
            have eA2 := wrapI_nat A1 (by have := HSL.out.2.2.2; omega)
            have eA3 := wrapI_nat A2 (by have := HSL.out.2.2.2; omega)
            obtain ⟨RL, hRL⟩ : ∃ z, z = rowAt T.syms (k + 1) := ⟨_, rfl⟩
            have hRlen : RL.length = 16 := by rw [hRL]; exact rowAt_len _ _ (by rw [← HSL.out.1, bt_len]; have := HC.out.1; omega)
            obtain ⟨RW, hRW⟩ : ∃ z : ByteArray, z = ⟨RL.toArray⟩ := ⟨_, rfl⟩
            have hx : S.extract A1 A2 = RW := by
              rw [part_ext T.syms S HSL.out.1 A1 A2 16 hA2, hRW, hRL, hA1]; rfl
            have hRWl : RW.toList = RL := by rw [hRW]; exact bal _
            obtain ⟨O, hO0⟩ : ∃ z, z = wd RL 0 := ⟨_, rfl⟩
            obtain ⟨VA, hVA⟩ : ∃ z, z = wd RL 4 := ⟨_, rfl⟩
            obtain ⟨SI, hSI⟩ : ∃ z, z = wd RL 8 := ⟨_, rfl⟩
            obtain ⟨C12, hC12⟩ : ∃ z : Nat, z = ((RL.drop 12).headD 0).toNat := ⟨_, rfl⟩
            obtain ⟨C15, hC15⟩ : ∃ z : Nat, z = ((RL.drop 15).headD 0).toNat := ⟨_, rfl⟩
            have bC12 : C12 < 256 := by rw [hC12]; exact ((RL.drop 12).headD 0).toNat_lt
            have bC15 : C15 < 256 := by rw [hC15]; exact ((RL.drop 15).headD 0).toNat_lt
            obtain ⟨BI, hBI⟩ : ∃ z, z = C12 / 16 := ⟨_, rfl⟩
            have bO : O < 4294967296 := by rw [hO0]; exact wd_lt _ _
            have bVA : VA < 4294967296 := by rw [hVA]; exact wd_lt _ _
            have bSI : SI < 4294967296 := by rw [hSI]; exact wd_lt _ _
            have K21a : Hid (∀ w', Calls Try.prog 21 #[.string RW, .int .i64 0] w' fun e w'' => e = .returned (.int .u32 (O : Int)) ∧ w'' = w') := fun w' => by rw [hRW, hO0]; exact rword21 RL 0 (by omega) (by omega) w'
            have K21b : Hid (∀ w', Calls Try.prog 21 #[.string RW, .int .i64 4] w' fun e w'' => e = .returned (.int .u32 (VA : Int)) ∧ w'' = w') := fun w' => by rw [hRW, hVA]; exact rword21 RL 4 (by omega) (by omega) w'
            have K21c : Hid (∀ w', Calls Try.prog 21 #[.string RW, .int .i64 8] w' fun e w'' => e = .returned (.int .u32 (SI : Int)) ∧ w'' = w') := fun w' => by rw [hRW, hSI]; exact rword21 RL 8 (by omega) (by omega) w'
            have hix12 : ∀ wx, (Instr.index 9 (.string RW) (.int .i64 12)).run Try.prog wx = .ok (.int .u8 (C12 : Int)) wx := fun wx => by rw [hC12]; exact hix_at RW RL hRWl 12 (by omega) (by omega) wx
            have hix15 : ∀ wx, (Instr.index 9 (.string RW) (.int .i64 15)).run Try.prog wx = .ok (.int .u8 (C15 : Int)) wx := fun wx => by rw [hC15]; exact hix_at RW RL hRWl 15 (by omega) (by omega) wx
            obtain ⟨EN, hEN⟩ : ∃ z, z = endsAt T.strs O := ⟨_, rfl⟩
            obtain ⟨NL, hNL⟩ : ∃ z, z = txtL T.strs O := ⟨_, rfl⟩
            obtain ⟨NB, hNB⟩ : ∃ z : ByteArray, z = ⟨NL.toArray⟩ := ⟨_, rfl⟩
            have K22 : Hid (∀ w', Calls Try.prog 22 #[.string Q, .int .u32 (O : Int)] w' fun e w'' => e = .returned (.tuple #[.string NB, .bool EN]) ∧ w'' = w') := fun w' => by rw [HSL.out.2.1, hNB, hNL, hEN]; exact text22 T.strs O bO HSL.out.2.2.1 w'
            obtain ⟨G, hG⟩ : ∃ z : Sy, z = ⟨NL, VA, SI, (BI : Int), (C15 : Int)⟩ := ⟨_, rfl⟩
            have HG : Hid (okR T.strs (rowAt T.syms (k + 1)) = (EN && fitY G) ∧ (EN = true → G = symR T.strs (rowAt T.syms (k + 1)))) := by
              have h2 : EN = true → G = symR T.strs (rowAt T.syms (k + 1)) := fun h => by
                rw [← hRL]
                unfold symR
                rw [hG, hNL, hVA, hSI, hBI, hC12, hC15, ← hO0]
                unfold txtL
                rw [← hEN, if_pos h]
              refine ⟨?_, h2⟩
              unfold okR
              rw [← hRL, ← hO0, ← hEN]
              cases hEE : EN with
              | false => rfl
              | true => rw [hRL, ← h2 hEE]
            have HO1 : Hid (O = wd (rowAt T.syms (k + 1)) 0) := by rw [← hRL]; exact hO0
            have eC12 : (C12 : Int) / 16 = (BI : Int) := by omega
            have eC12' : (C12 : Int).tdiv 16 = (BI : Int) := by rw [Int.tdiv_eq_ediv_of_nonneg (by omega)]; exact eC12
            have wC12 := wrapI_nat C12 (by omega)
            have wC15 := wrapI_nat C15 (by omega)
            have wBI := wrapI_nat BI (by omega)
            have HBD : Hid (O < 4294967296 ∧ VA < 4294967296 ∧ SI < 4294967296 ∧ BI ≤ 15 ∧ C15 < 256) := ⟨bO, bVA, bSI, by show BI ≤ 15; omega, bC15⟩
            have HGE : Hid (G = ⟨NL, VA, SI, (BI : Int), (C15 : Int)⟩ ∧ NB = ⟨NL.toArray⟩) := ⟨hG, hNB⟩
            obtain ⟨SA, hSA⟩ : ∃ z : ByteArray, z = ⟨(allR T k).toArray⟩ := ⟨_, rfl⟩
            rw [← hSA]
            have HSA : Hid (SA = ⟨(allR T k).toArray⟩) := hSA
            clear hRW hA1 hA2 hok hO h3 hbr hsB hlt hk hSx hI hRL hRlen hRWl hO0 hVA hSI hC12 hC15 hBI hEN hNL hNB hG bC12 bC15 bO bVA bSI hSA
            go_wp2_with fail
            refine (K21a.out wr).mono ?_
            rintro e w4 ⟨rfl, rfl⟩
            go_wp2_with fail
            refine (K22.out w4).mono ?_
            rintro e w5 ⟨rfl, rfl⟩
            clear K21a K22
            go_wp2
            refine wp_region_cut (R := Ext) [⟨54, fun v _ => v = .string NB, fun _ _ _ _ h => h⟩, ⟨55, fun v _ => v = .string RW, fun _ _ _ _ h => h⟩, ⟨56, fun v _ => v = .int .u32 (VA : Int), fun _ _ _ _ h => h⟩, ⟨57, fun v _ => v = .string RW, fun _ _ _ _ h => h⟩, ⟨58, fun v _ => v = .int .u32 (SI : Int), fun _ _ _ _ h => h⟩, ⟨59, fun v _ => v = .string RW, fun _ _ _ _ h => h⟩, ⟨60, fun v _ => v = .int .u8 (C12 : Int), fun _ _ _ _ h => h⟩, ⟨61, fun v _ => v = .int .i64 (C12 : Int), fun _ _ _ _ h => h⟩, ⟨62, fun v _ => v = .int .i64 (BI : Int), fun _ _ _ _ h => h⟩, ⟨63, fun v _ => v = .string RW, fun _ _ _ _ h => h⟩, ⟨64, fun v _ => v = .int .u8 (C15 : Int), fun _ _ _ _ h => h⟩, ⟨65, fun v _ => v = .int .i64 (C15 : Int), fun _ _ _ _ h => h⟩, ⟨66, fun v _ => v = .agg #[.string NB, .int .u32 (VA : Int), .int .u32 (SI : Int), .int .i64 (BI : Int), .int .i64 (C15 : Int)], fun _ _ _ _ h => h⟩, ⟨12, fun v w' => ∃ b, v = .pointer (some ⟨b, 0, none⟩) ∧ B5 zeroY b w' ∧ w5.heap.size ≤ b, fun _ _ _ hb h => by obtain ⟨b, h1, h2, h3⟩ := h; exact ⟨b, h1, h2.keep hb, h3⟩⟩] _ 14 (by kernel_rfl) rfl (by kernel_rfl) (by decide) (by kernel_rfl) (Below.drew (Below.refl _ _)) (fun _ _ _ h1 h2 => below_tr h1 h2) (fun QQ => ⟨?_, ?_, ?_, ?_, ?_, ?_, ?_, ?_, ?_, ?_, ?_, ?_, ?_, ?_, trivial⟩) (fun f wy hR hf A hA => ?_)
            · intro A wx hR hout hdep K hK
              have h10 : A.tmps[10]?.getD undef = .string NB := hout 10 (by kernel_rfl)
              refine if_yes (by kernel_rfl) ?_
              simp [go_sem, h10]
              exact hK.out _ _ (Below.refl _ _) rfl
            · intro A wx hR hout hdep K hK
              have h8 : A.tmps[8]?.getD undef = .string RW := hout 8 (by kernel_rfl)
              refine if_yes (by kernel_rfl) ?_
              simp [go_sem, h8]
              exact hK.out _ _ (Below.refl _ _) rfl
            · intro A wx hR hout hdep K hK
              have h55 : A.tmps[55]?.getD undef = .string RW := hdep 55 (by kernel_rfl)
              refine if_yes (by kernel_rfl) ?_
              simp [go_sem, h55]
              refine (K21b.out wx).mono ?_
              rintro e wG ⟨rfl, rfl⟩
              exact hK.out _ _ (Below.refl _ _) rfl
            · intro A wx hR hout hdep K hK
              have h8 : A.tmps[8]?.getD undef = .string RW := hout 8 (by kernel_rfl)
              refine if_yes (by kernel_rfl) ?_
              simp [go_sem, h8]
              exact hK.out _ _ (Below.refl _ _) rfl
            · intro A wx hR hout hdep K hK
              have h57 : A.tmps[57]?.getD undef = .string RW := hdep 57 (by kernel_rfl)
              refine if_yes (by kernel_rfl) ?_
              simp [go_sem, h57]
              refine (K21c.out wx).mono ?_
              rintro e wG ⟨rfl, rfl⟩
              exact hK.out _ _ (Below.refl _ _) rfl
            · intro A wx hR hout hdep K hK
              have h8 : A.tmps[8]?.getD undef = .string RW := hout 8 (by kernel_rfl)
              refine if_yes (by kernel_rfl) ?_
              simp [go_sem, h8]
              exact hK.out _ _ (Below.refl _ _) rfl
            · intro A wx hR hout hdep K hK
              have h59 : A.tmps[59]?.getD undef = .string RW := hdep 59 (by kernel_rfl)
              refine if_yes (by kernel_rfl) ?_
              simp [go_sem, h59, hix12]
              exact hK.out _ _ (Below.refl _ _) rfl
            · intro A wx hR hout hdep K hK
              have h60 : A.tmps[60]?.getD undef = .int .u8 (C12 : Int) := hdep 60 (by kernel_rfl)
              refine if_yes (by kernel_rfl) ?_
              simp [go_sem, h60, wC12]
              exact hK.out _ _ (Below.refl _ _) rfl
            · intro A wx hR hout hdep K hK
              have h61 : A.tmps[61]?.getD undef = .int .i64 (C12 : Int) := hdep 61 (by kernel_rfl)
              refine if_yes (by kernel_rfl) ?_
              simp [go_sem, h61, eC12, eC12', wBI]
              exact hK.out _ _ (Below.refl _ _) rfl
            · intro A wx hR hout hdep K hK
              have h8 : A.tmps[8]?.getD undef = .string RW := hout 8 (by kernel_rfl)
              refine if_yes (by kernel_rfl) ?_
              simp [go_sem, h8]
              exact hK.out _ _ (Below.refl _ _) rfl
            · intro A wx hR hout hdep K hK
              have h63 : A.tmps[63]?.getD undef = .string RW := hdep 63 (by kernel_rfl)
              refine if_yes (by kernel_rfl) ?_
              simp [go_sem, h63, hix15]
              exact hK.out _ _ (Below.refl _ _) rfl
            · intro A wx hR hout hdep K hK
              have h64 : A.tmps[64]?.getD undef = .int .u8 (C15 : Int) := hdep 64 (by kernel_rfl)
              refine if_yes (by kernel_rfl) ?_
              simp [go_sem, h64, wC15]
              exact hK.out _ _ (Below.refl _ _) rfl
            · intro A wx hR hout hdep K hK
              have h54 : A.tmps[54]?.getD undef = .string NB := hdep 54 (by kernel_rfl)
              have h56 : A.tmps[56]?.getD undef = .int .u32 (VA : Int) := hdep 56 (by kernel_rfl)
              have h58 : A.tmps[58]?.getD undef = .int .u32 (SI : Int) := hdep 58 (by kernel_rfl)
              have h62 : A.tmps[62]?.getD undef = .int .i64 (BI : Int) := hdep 62 (by kernel_rfl)
              have h65 : A.tmps[65]?.getD undef = .int .i64 (C15 : Int) := hdep 65 (by kernel_rfl)
              refine if_yes (by kernel_rfl) ?_
              simp [go_sem, h54, h56, h58, h62, h65]
              exact hK.out _ _ (Below.refl _ _) rfl
            · intro A wx hR hout hdep K hK
              refine if_yes (by kernel_rfl) ?_
              simp [go_sem, ]
              exact hK.out _ _ ((Below.refl _ _).alloc (Nat.le_refl _) _) ⟨_, rfl, B5.new zeroY wx, hR.size⟩
            obtain ⟨b, h12, hb5, hbw⟩ : ∃ b, f 12 = .pointer (some ⟨b, 0, none⟩) ∧ B5 zeroY b wy ∧ w5.heap.size ≤ b := hf 12 (by kernel_rfl)
            have h66 : f 66 = .agg #[.string NB, .int .u32 (VA : Int), .int .u32 (SI : Int), .int .i64 (BI : Int), .int .i64 (C15 : Int)] := hf 66 (by kernel_rfl)
            simp only [putSl, List.take_succ_cons, List.take_zero, Act.put, List.setIfInBounds_toArray, List.set_cons_zero, List.set_cons_succ, h12, h66] at hA
            subst hA
            obtain ⟨z0, z1, z2, z3, z4⟩ := hb5.cells
            have f0 := hb5.frozen 0
            have f1 := hb5.frozen 1
            have f2 := hb5.frozen 2
            have f3 := hb5.frozen 3
            have f4 := hb5.frozen 4
            obtain ⟨W9, hW9⟩ : ∃ z, ((((wy.setCell ⟨b, 0, none⟩ (.string NB)).setCell ⟨b, 1, none⟩ (.int .u32 (VA : Int))).setCell ⟨b, 2, none⟩ (.int .u32 (SI : Int))).setCell ⟨b, 3, none⟩ (.int .i64 (BI : Int))).setCell ⟨b, 4, none⟩ (.int .i64 (C15 : Int)) = z := ⟨_, rfl⟩
            have H9 : Hid (B5 G b W9 ∧ Below w5.heap.size w5 W9 ∧ w5.heap.size ≤ b) := by
              have hg := st5_grown wy b G
              have hi := st5_in hb5 G
              have e : st5 wy b G = W9 := by rw [← hW9, HGE.out.1, HGE.out.2]; rfl
              rw [e] at hg hi
              exact ⟨hi, hR.grown hg hR.size (fun k e => by injection e with e; omega), hbw⟩
            clear hf h12 h66 hb5 hR hbw K21b K21c hix12 hix15
            refine wpAny_ready (rs := [14]) (by kernel_rfl) (by decide) (AllReady.cons rfl ?_ AllReady.nil)
            intro K5 hK5
            refine if_yes (by kernel_rfl) ?_
            simp [go_sem, z0, z1, z2, z3, z4, f0, f1, f2, f3, f4, hW9]
            refine hK5 _ _ ?_
            refine wpAny_done (by kernel_rfl) ?_ _
            clear hK5 K5 z0 z1 z2 z3 z4 f0 f1 f2 f3 f4 hW9 q0 q1 q2
            cases EN with
            | false =>
              have HNO : Hid (readE T = false) := by
                show _ = _
                rw [← (ref_read T).1]
                unfold refE
                rw [rowsR_no T k (cntN T) (by rw [HG.out.1]; rfl) HKC.out]
                simp
              have HBW : Hid (Below w.heap.size w W9) := below_tr HB.out H9.out.2.1
              clear hx
              go_wp2
              go_ret2
              exact HN.out _ HNO.out HBW.out
            | true =>
              have HGR : Hid (G = symR T.strs (rowAt T.syms (k + 1))) := HG.out.2 rfl
              obtain ⟨c0, c1, c2, c3, c4⟩ := H9.out.1.cells
              have K23 := fitSym23 G W9
              unfold Sy.val at K23
              go_wp2_with fail
              refine K23.mono ?_
              rintro e wF ⟨rfl, hbF⟩
              have HF9 : Hid (B5 G b wF ∧ Below w5.heap.size w5 wF) := ⟨H9.out.1.keep hbF, below_tr H9.out.2.1 hbF⟩
              clear c0 c1 c2 c3 c4 K23 hbF
              cases hFY : fitY G with
              | false =>
                have HNO : Hid (readE T = false) := by
                  show _ = _
                  rw [← (ref_read T).1]
                  unfold refE
                  rw [rowsR_no T k (cntN T) (by rw [HG.out.1]; rw [hFY]; rfl) HKC.out]
                  simp
                have HBW : Hid (Below w.heap.size w wF) := below_tr HB.out HF9.out.2
                clear hx hFY
                go_wp2
                go_ret2
                exact HN.out _ HNO.out HBW.out
              | true =>
                have HFY : Hid (FitY G ∧ okR T.strs (rowAt T.syms (k + 1)) = true) := ⟨of_decide_eq_true hFY, by rw [HG.out.1, hFY]; rfl⟩
                have HOK2 : Hid (rowsR T (k + 1) = true) := by show _ = _; rw [rowsR_snoc T k HOK.out]; exact HFY.out.2
                clear hFY
                obtain ⟨c0, c1, c2, c3, c4⟩ := HF9.out.1.cells
                obtain ⟨W6, hW6⟩ : ∃ W6, wF.alloc (.cells #[.string ⟨G.name.toArray⟩, .int .u32 (G.value : Int), .int .u32 (G.size : Int), .int .i64 G.bind, .int .i64 G.part] 39) = W6 := ⟨_, rfl⟩
                have hb6 : Below wF.heap.size wF W6 := by rw [← hW6]; exact (Below.refl _ _).alloc (Nat.le_refl _) _
                have h6 : B5 G wF.heap.size W6 := by rw [← hW6]; exact B5.new G wF
                have HOW : Hid (W6.ownsRow B 39 5 (.slice sa k sc) (symsRL T k).length ((symsRL T k).flatMap Sy.cells) ∧ B ≤ W6.heap.size ∧ ∀ j u, (G.cells)[j]? = some u → W6.cell? ((⟨wF.heap.size, 0, none⟩ : Addr).add j) = some u) := by
                  have h1 : OwnY B W6 (.slice sa k sc) (symsRL T k) := (HO.out.keep HF9.out.2).keep hb6
                  refine ⟨h1, ?_, cells5 h6⟩
                  have := HF9.out.2.size
                  have := hb6.size
                  have := HSZ.out
                  omega
                have HB6 : Hid (Below w5.heap.size w5 W6 ∧ B5 G b W6) := ⟨below_tr HF9.out.2 hb6, HF9.out.1.keep hb6⟩
                obtain ⟨i0, hi1, hi2, hi3, hi4⟩ := infoY
                have HLK : Hid (k ≤ 200) := by show k ≤ 200; have := HKC.out; have := HC.out.2.1; omega
                have HOB : Hid (∀ r, (Value.slice sa k sc).ownBlock = some r → B ≤ r ∧ r ≠ b) := fun r e => by
                  refine ⟨HO.out.ge r e, ?_⟩
                  obtain ⟨h0, h1 | ⟨g, c, cur, h1, h2, h3, h4⟩⟩ := HO.out
                  · rw [h1.1] at e; cases e
                  · rw [h1] at e
                    have e : g = r := by simpa [Value.ownBlock] using e
                    have := (Array.getElem?_eq_some_iff.1 h3).1
                    have := H9.out.2.2
                    omega
                clear hb6 h6
                go_wp2_with (at_builtin; refine wpList_append_own _ rfl _ _ 26 rfl B 39 i0 _ 5 40 Try.underlying26 hi1 hi2 hi3 hi4 rfl (by decide) _ _ _ rfl HOW.out.1 ⟨wF.heap.size, 0, none⟩ 1 1 G.cells rfl rfl HOW.out.2.2 (one5 G) ?_ ?_ HOW.out.2.1 ?_)
                · rw [symsRL_len]; have := HLK.out; unfold maxLen; omega
                · rw [symsRL_len]; have := HLK.out; omega
                intro sv w7 how7 hgr7 _
                have HO7 : Hid (OwnY B w7 sv (symsRL T (k + 1))) := by
                  show w7.ownsRow _ _ _ _ _ _
                  rw [symsRL_snoc, List.length_append, List.flatMap_append, ← HGR.out]
                  simpa using how7
                have HB7 : Hid (Below w.heap.size w w7 ∧ T3 T w.heap.size w7 ∧ B ≤ w7.heap.size ∧ B5 G b w7) := by
                  have hb6 : Below w.heap.size w W6 := HB.out.trans (HB6.out.1.mono HB.out.size)
                  have hs6 := HB6.out.1.size
                  have h1 := HSZ.out
                  refine ⟨hb6.grown hgr7 hb6.size (fun r e => by have := (HOB.out r e).1; have := HBB.out; omega), (HT3.out.keep HB6.out.1).row hgr7 (fun e => by have := (HOB.out _ e.symm).1; have := HBB.out; omega), ?_, HB6.out.2.row hgr7 (fun e => (HOB.out _ e.symm).2 rfl)⟩
                  have := hgr7.size
                  omega
                obtain ⟨sa2, sc2, rfl⟩ := HO7.out.shape
                rw [symsRL_len] at HO7 ⊢
                clear how7 hgr7 c0 c1 c2 c3 c4 hW6 hi1 hi2 hi3 hi4
                obtain ⟨c0, c1, c2, c3, c4⟩ := HB7.out.2.2.2.cells
                have K24 := rsymbol24 G O HBD.out.1 (by rw [HGE.out.1]; exact HBD.out.2.1) (by rw [HGE.out.1]; exact HBD.out.2.2.1) HFY.out.1.2.2.2.1 (by have := HFY.out.1.2.2.2.2.1; omega) HFY.out.1.2.2.2.2.2.1 (by have := HFY.out.1.2.2.2.2.2.2; omega) w7
                unfold Sy.val at K24
                obtain ⟨RB, hRB⟩ : ∃ z : ByteArray, z = ⟨(rowB G O).toArray⟩ := ⟨_, rfl⟩
                rw [← hRB] at K24
                have HT : Hid (SA ++ RB = ⟨(allR T (k + 1)).toArray⟩) := by
                  show _ = _
                  rw [HSA.out, hRB, ba_app, allR_snoc]
                  unfold rowR
                  rw [← HGR.out, ← HO1.out]
                have HCS : Hid (¬ 9223372036854775807 < SA.size + RB.size) := by
                  show ¬ _
                  rw [← bt_len SA, ← bt_len RB, HSA.out, hRB, bal, bal, rowB_len, allR_len]
                  have := HLK.out
                  omega
                clear hRB
                go_wp2_with fail
                refine K24.mono ?_
                rintro e w8 ⟨rfl, hb8⟩
                have H8 : Hid (Below w.heap.size w w8 ∧ T3 T w.heap.size w8 ∧ B ≤ w8.heap.size ∧ OwnY B w8 (.slice sa2 (k + 1) sc2) (symsRL T (k + 1))) := ⟨below_tr HB7.out.1 hb8, HB7.out.2.1.keep hb8, Nat.le_trans HB7.out.2.2.1 hb8.size, HO7.out.keep hb8⟩
                clear K24 c0 c1 c2 c3 c4 hb8
                go_wp2_with fail
                clear HCS
                rw [HT.out]
                have eI : (I : Int) + 1 = ((k + 1 + 1 : Nat) : Int) := by have := HIK.out; omega
                have HK1 : Hid (k + 1 ≤ cntN T) := HKC.out
                clear hx
                go_wp2
                go_roundw
                case rel => exact ⟨k + 1, sa2, sc2, by first | rfl | (congr 1; omega) | (simp; omega) | go_num, rfl, rfl, HK1.out, HOK2.out, H8.out.2.2.2, H8.out.2.1, H8.out.1, H8.out.2.2.1⟩
                case measure => have := HIK.out; simp [intOf]; omega
          · have hkc : k = cntN T := by omega
            have hIN : ¬ (I : Int) < (N : Int) := by have := HC.out.2.2; omega
            obtain ⟨SA, hSA⟩ : ∃ z : ByteArray, z = ⟨(allR T k).toArray⟩ := ⟨_, rfl⟩
            rw [← hSA]
            have hq : (SA.toList == S.toList) = (allR T (cntN T) == T.syms) := by rw [hSA, bal, HSL.out.1, hkc]
            have hrf : refE T = (allR T (cntN T) == T.syms) := by
              have h := HOK.out
              rw [hkc] at h
              unfold refE
              rw [HLEN.out, h]
              rfl
            rw [(ref_read T).1] at hrf
            have HO5 : Hid (OwnY w.heap.size wr (.slice sa k sc) (symsRL T k)) := HO.out.base (by have := HBB.out; omega)
            cases heq : (allR T (cntN T) == T.syms) with
            | false =>
              rw [heq] at hq hrf
              have HR : Hid (readE T = false) := hrf
              have hq2 : (SA.toList != S.toList) = true := by rw [bne, hq]; rfl
              clear heq hrf hSA hok hO h3 hbr hsB hkc hSx hI hk
              go_wp2
              go_ret2
              exact HN.out _ HR.out HB.out
            | true =>
              rw [heq] at hq hrf
              have HR : Hid (readE T = true) := hrf
              have hq2 : (SA.toList != S.toList) = false := by rw [bne, hq]; rfl
              have HLS : Hid (symsRL T k = readL T) := by show _ = _; rw [readL_yes hrf, hkc]; exact (ref_read T).2 hrf
              clear heq hrf hSA hok hO h3 hbr hsB hkc hSx hI hk
              go_wp2
              go_ret2
              exact ⟨⟨_, by rw [err_yes HR.out]; rfl, by rw [← HLS.out]; exact HO5.out⟩, HB.out⟩
  · have e1 : ¬ (S.size : Int).tmod 16 = 0 := by
      rw [show (S.size : Int).tmod 16 = ((S.size % 16 : Nat) : Int) from (Int.ofNat_tmod S.size 16).symm]
      omega
    have HR : Hid (readE T = false) := read_no1 (by unfold lenOk; exact decide_eq_false (by omega))
    clear hS0 hSl hsz hl1 hl2 hQ0 g1 hN
    go_enter Try.func10, Try.ntmps10
    go_wp2
    go_ret2
    exact HN.out _ HR.out H1.out.1
end Go.Proofs.Ytmkfgoacbehhcaa
