/- What is proved here: the words of a text: the document's Assemble. -/
import Derived.Test.YtglkkeelocdanaaGreatDoorOh
import Derived.Test.YtglkkeelocdanaaGreatDoorOg
import Derived.Test.YtglkkeelocdanaaGreatDoorNn
import Derived.Test.YtglkkeelocdanaaGreatDoorNs
import Derived.Test.YtglkkeelocdanaaGreatDoorWRef
import Derived.LoopTactic
import Derived.LoopN
namespace Go.Proofs.YtglkkeelocdanaaGreatDoor
open Go.RowKit
set_option linter.unusedVariables false
set_option linter.unusedSimpArgs false
set_option maxRecDepth 100000
theorem form_dot : formL8 ⟨([46, 119, 111, 114, 100] : L8).toArray⟩ = [] := by decide +kernel
theorem rw_code (s : L8) : codeR s = match rwO (cutL s) with
    | some b => some b
    | none => (insR (cutL s)).map (fun i => (W.putBeS (encN i) 4).toList) := by
  unfold codeR rwO
  by_cases h : dotW.isPrefixOf (cutL s) = true
  · rw [if_pos h, if_pos h]
    cases hb : bytesR ((cutL s).drop 8) with
    | some b => rfl
    | none =>
      have hi : insR (cutL s) = none := by
        have hp := List.isPrefixOf_iff_prefix.1 h
        obtain ⟨t, ht⟩ := hp
        rw [← ht]
        have hnm : nameOf (dotW ++ t) = [46, 119, 111, 114, 100] := rfl
        unfold insR
        rw [hnm, if_pos form_dot]
      rw [hi]; rfl
  · rw [if_neg h, if_neg h]
/-- What a text's beginning comes to. -/
def AkI (l : L8) (o : L8) (n f k : Nat) : Prop := f ≤ k ∧ (∀ c ∈ (l.take k).drop f, c ≠ 10) ∧ asmN (numd 0 (spl l)) [] = asmN (numd n (spl (l.drop f))) o
theorem ak_next {l o : L8} {n f k : Nat} (h : AkI l o n f k) (hk : k < l.length) (hc : l[k] ≠ 10) : AkI l o n f (k + 1) := by
  obtain ⟨h1, h2, h3⟩ := h
  refine ⟨by omega, fun c hcm => ?_, h3⟩
  rw [acc_snoc l f k hk h1] at hcm
  rcases List.mem_append.1 hcm with q | q
  · exact h2 c q
  · rw [List.mem_singleton.1 q]; exact hc
theorem ak_line {l o : L8} {n f k : Nat} (h : AkI l o n f k) (hk : k < l.length) (hc : l[k] = 10) : asmN (numd 0 (spl l)) [] = asmN ((n, (l.take k).drop f) :: numd (n + 1) (spl (l.drop (k + 1)))) o := by
  obtain ⟨h1, h2, h3⟩ := h
  have e : l.drop f = (l.take k).drop f ++ 10 :: l.drop (k + 1) := by
    have e1 : l = l.take k ++ 10 :: l.drop (k + 1) := by
      have := List.take_append_drop k l
      rw [List.drop_eq_getElem_cons hk, hc] at this
      exact this.symm
    have e2 : (l.take k ++ 10 :: l.drop (k + 1)).drop f = (l.take k).drop f ++ 10 :: l.drop (k + 1) := by
      rw [List.drop_append_of_le_length (by rw [List.length_take]; omega)]
    rw [← e1] at e2
    exact e2
  rw [h3, e, spl_line _ _ h2, numd]
theorem spl_all : ∀ (x : L8), (∀ c ∈ x, c ≠ 10) → spl x = [x]
  | [], _ => rfl
  | c :: t, h => by rw [spl, if_neg (h c (by simp)), spl_all t (fun d hd => h d (by simp [hd]))]
theorem ak_last {l o : L8} {n f : Nat} (h : AkI l o n f l.length) : asmN (numd 0 (spl l)) [] = asmN ((n, (l.take l.length).drop f) :: []) o := by
  obtain ⟨h1, h2, h3⟩ := h
  rw [List.take_length] at h2 ⊢
  rw [h3, spl_all _ h2]
  rfl
set_option maxHeartbeats 2000000 in
theorem rassemble12 (l : L8) (hn : l.length ≤ 100000) (w : World) : Calls Tryz.prog 12 #[.string ⟨l.toArray⟩] w fun e w' => e = .returned (asmV l) ∧ Below w.heap.size w w' := by
  obtain ⟨S, hS⟩ : ∃ z : ByteArray, z = ⟨l.toArray⟩ := ⟨_, rfl⟩
  have HS : Hid (S.toList = l ∧ S.size = l.length) := by
    have h : S.toList = l := by rw [hS]; exact bal l
    exact ⟨h, by rw [← h, bt_len]⟩
  have hSz : S.size ≤ 100000 := by rw [HS.out.2]; exact hn
  obtain ⟨FR, hFR⟩ : ∃ z, z = asmV l := ⟨_, rfl⟩
  have HFR : Hid (∀ (b : L8) (n : Nat) (e : Int), asmN (numd 0 (spl l)) [] = (b, n, e) → FR = .tuple #[.string ⟨b.toArray⟩, .int .i64 (n : Int), .int .i64 e]) := fun b n e h => by
    rw [hFR]
    unfold asmV
    rw [asmL_spl, h]
  rw [← hS, ← hFR]
  obtain ⟨post, hpost⟩ : ∃ p : Ending → World → Prop, p = fun e w' => e = .returned FR ∧ Below w.heap.size w w' := ⟨_, rfl⟩
  rw [← hpost]
  have HPO : Hid (∀ v w', FR = v → Below w.heap.size w w' → post (.returned v) w') := fun v w' h hb => by rw [hpost, h]; exact ⟨rfl, hb⟩
  clear hS hFR hn hpost
  go_enter Tryz.func12, Tryz.ntmps12
  go_wp2
  go_loopw [5, 6, 7, 8] (fun x y z u wr => ∃ (O : ByteArray) (o : L8) (n f k : Nat), x = .string O ∧ y = .int .i64 (n : Int) ∧ z = .int .i64 (f : Int) ∧ u = .int .i64 (k : Int) ∧ O = ⟨o.toArray⟩ ∧ o.length ≤ 4 * n ∧ n ≤ k ∧ k ≤ S.size + 1 ∧ ((k ≤ S.size ∧ AkI l o n f k) ∨ (k = S.size + 1 ∧ asmN (numd 0 (spl l)) [] = (o, 0, 0))) ∧ Below w.heap.size w wr) (fun _ _ _ u _ => S.size + 2 - (intOf u).toNat)
  case atStart => exact ⟨⟨#[]⟩, [], 0, 0, 0, rfl, rfl, rfl, rfl, rfl, by simp, Nat.le_refl _, by omega, .inl ⟨Nat.zero_le _, Nat.le_refl _, by simp, rfl⟩, Below.refl _ _⟩
  case round =>
    obtain ⟨O, o, n, f, k, rfl, rfl, rfl, rfl, hO, hol, hnk, hk, hst, hb⟩ := hrel
    have HB : Hid (Below w.heap.size w wr) := hb
    have hOs : O.size = o.length := by rw [hO]; show Array.size _ = _; simp
    have HO : Hid (O = ⟨o.toArray⟩ ∧ o.length ≤ 4 * n ∧ n ≤ k ∧ O.size = o.length) := ⟨hO, hol, hnk, hOs⟩
    clear hb hO
    have hnb : n ≤ 100001 := by omega
    rcases hst with ⟨hks, hak⟩ | ⟨hks, hfin⟩
    · have HAK : Hid (AkI l o n f k) := hak
      have hfk : f ≤ k := hak.1
      have gk : (k : Int) ≤ (S.size : Int) := by omega
      obtain ⟨LN, hLN⟩ : ∃ z, z = (l.take k).drop f := ⟨_, rfl⟩
      obtain ⟨LB, hLB⟩ : ∃ z : ByteArray, z = ⟨LN.toArray⟩ := ⟨_, rfl⟩
      have hsl : S.extract f k = LB := by rw [ext_list, HS.out.1, hLB, hLN]
      have hLl : LN.length ≤ 100000 := by rw [hLN, List.length_drop, List.length_take]; omega
      have HLN : Hid (LN = (l.take k).drop f ∧ LN.length ≤ 100000 ∧ LB = ⟨LN.toArray⟩) := ⟨hLN, hLl, hLB⟩
      have gfk : (f : Int) ≤ (k : Int) := by omega
      clear hak hLN hLB hLl hol hnk hOs
      by_cases hlt : k < S.size
      · have gkl : (k : Int) < (S.size : Int) := by omega
        have h1 : k < S.toList.length := by rw [bt_len]; exact hlt
        obtain ⟨c, hc⟩ : ∃ c, c = S.toList[k] := ⟨_, rfl⟩
        have ic : S[k] = c := by rw [hc]; exact bt_get S k hlt h1
        have HCC : Hid (∃ h : k < l.length, l[k] = c) := by
          have := HS.out.1
          refine ⟨by rw [← this]; exact h1, ?_⟩
          rw [hc]
          simp only [this]
        obtain ⟨cn, hcn⟩ : ∃ z : Nat, z = c.toNat := ⟨_, rfl⟩
        have ic2 : S[k].toNat = cn := by rw [ic, hcn]
        have HCN : Hid (cn = c.toNat) := hcn
        clear ic hc h1 hcn
        by_cases hc10 : cn = 10
        · have q10 : ((cn : Int) != 10) = false := by rw [hc10]; rfl
          have HASM : Hid (asmN (numd 0 (spl l)) [] = asmN ((n, LN) :: numd (n + 1) (spl (l.drop (k + 1)))) o) := by
            obtain ⟨h, hh⟩ := HCC.out
            show _ = _
            rw [HLN.out.1]
            exact ak_line HAK.out h (by rw [hh]; exact UInt8.toNat_inj.1 (by rw [← HCN.out, hc10]; rfl))
          have HNXT : Hid (∀ o', asmN (numd 0 (spl l)) [] = asmN (numd (n + 1) (spl (l.drop (k + 1)))) o' → (k + 1 ≤ S.size ∧ AkI l o' (n + 1) (k + 1) (k + 1)) ∨ (k + 1 = S.size + 1 ∧ asmN (numd 0 (spl l)) [] = (o', 0, 0))) := fun o' h => .inl ⟨by omega, Nat.le_refl _, by rw [List.drop_take]; simp, h⟩
          subst hc10
          have HASM2 : Hid (∃ t, asmN (numd 0 (spl l)) [] = asmN ((n, LN) :: t) o ∧ ∀ o', asmN (numd 0 (spl l)) [] = asmN t o' → (k + 1 ≤ S.size ∧ AkI l o' (n + 1) (k + 1) (k + 1)) ∨ (k + 1 = S.size + 1 ∧ asmN (numd 0 (spl l)) [] = (o', 0, 0))) := ⟨_, HASM.out, HNXT.out⟩
          clear HASM HNXT HCC HCN
          cases hw : hasW LN with
          | false =>
            have HGO : Hid ((k + 1 ≤ S.size ∧ AkI l o (n + 1) (k + 1) (k + 1)) ∨ (k + 1 = S.size + 1 ∧ asmN (numd 0 (spl l)) [] = (o, 0, 0))) := by
              obtain ⟨t, h1, h2⟩ := HASM2.out
              refine h2 o ?_
              rw [h1, asmN]
              simp only []
              rw [hw, if_neg (by decide)]
            cases hLc : LN with
            | nil =>
              have he : LB.toList.isEmpty = true := by rw [HLN.out.2.2, bal, hLc]; rfl
              clear hw hLc
              go_wp2
              go_roundw
              case rel => exact ⟨O, o, n + 1, k + 1, k + 1, by first | rfl | simp, by first | rfl | simp, by first | rfl | simp, by first | rfl | simp, HO.out.1, by have := HO.out.2.1; omega, by have := HO.out.2.2.1; omega, by omega, HGO.out, HB.out⟩
              case measure => simp [intOf]; omega
            | cons d t =>
              have hdd : d = 35 := by rw [hLc] at hw; simpa [hasW] using hw
              have hbl : LB.toList = d :: t := by rw [HLN.out.2.2, bal, hLc]
              have he : LB.toList.isEmpty = false := by rw [hbl]; rfl
              have hs0 : 0 < LB.size := by rw [← bt_len, hbl]; simp
              have gs0 : (0 : Int) < (LB.size : Int) := by omega
              have ix0 : LB[0].toNat = 35 := by rw [bt_get LB 0 hs0 (by rw [bt_len]; exact hs0)]; simp only [hbl]; rw [show (d :: t)[0] = d from rfl, hdd]; rfl
              clear hw hLc hdd hbl
              go_wp2
              go_roundw
              case rel => exact ⟨O, o, n + 1, k + 1, k + 1, by first | rfl | simp, by first | rfl | simp, by first | rfl | simp, by first | rfl | simp, HO.out.1, by have := HO.out.2.1; omega, by have := HO.out.2.2.1; omega, by omega, HGO.out, HB.out⟩
              case measure => simp [intOf]; omega
          | true =>
            have hbl : ∃ d t, LN = d :: t ∧ d ≠ 35 := by
              cases hLc : LN with
              | nil => rw [hLc] at hw; cases hw
              | cons d t => exact ⟨d, t, rfl, by rw [hLc] at hw; simpa [hasW] using hw⟩
            obtain ⟨d, t, hLd, hd35⟩ := hbl
            have hbl : LB.toList = d :: t := by rw [HLN.out.2.2, bal, hLd]
            have he : LB.toList.isEmpty = false := by rw [hbl]; rfl
            have hs0 : 0 < LB.size := by rw [← bt_len, hbl]; simp
            have gs0 : (0 : Int) < (LB.size : Int) := by omega
            obtain ⟨dn, hdn⟩ : ∃ z : Nat, z = d.toNat := ⟨_, rfl⟩
            have ix0 : LB[0].toNat = dn := by rw [bt_get LB 0 hs0 (by rw [bt_len]; exact hs0)]; simp only [hbl]; rw [show (d :: t)[0] = d from rfl, hdn]
            have q35 : ((dn : Int) == 35) = false := by
              simp
              intro e
              exact hd35 (UInt8.toNat_inj.1 (by rw [← hdn]; show dn = 35; omega))
            have K30 := cut30 LN HLN.out.2.1 wr
            have hcl := cutL_len LN
            rw [← HLN.out.2.2] at K30
            obtain ⟨C, hC⟩ : ∃ z, z = cutL LN := ⟨_, rfl⟩
            rw [← hC] at K30 hcl
            have hcn : C.length ≤ 100000 := by have := HLN.out.2.1; omega
            have HRC : Hid (codeR LN = match rwO C with
              | some b => some b
              | none => (insR C).map (fun i => (W.putBeS (encN i) 4).toList)) := by show _ = _; rw [hC]; exact rw_code LN
            have K31 : Hid (∀ w', Calls Tryz.prog 31 #[.string ⟨C.toArray⟩] w' fun e w'' => e = .returned (.tuple #[.string ⟨((rwO C).getD []).toArray⟩, .bool (rwO C).isSome]) ∧ Below w'.heap.size w' w'') := fun w' => raw31 C hcn w'
            have K8 : Hid (∀ w', Calls Tryz.prog 8 #[.string ⟨C.toArray⟩] w' fun e w'' => e = .returned (.tuple #[(parI C).val, .int .i64 (parE C)]) ∧ Below w'.heap.size w' w'') := fun w' => rparse8 C hcn w'
            obtain ⟨CB, hCB⟩ : ∃ z : ByteArray, z = ⟨C.toArray⟩ := ⟨_, rfl⟩
            rw [← hCB] at K30 K31 K8
            have HW : Hid (hasW LN = true) := hw
            clear hw hLd hd35 hbl hdn hC hcl hcn hCB
            go_wp2_with fail
            refine K30.mono ?_
            rintro e w1 ⟨rfl, hw1⟩
            obtain rfl : wr = w1 := hw1.symm
            clear K30 hw1
            have KR := K31.out wr
            cases hr : rwO C with
            | some b =>
              rw [hr] at KR HRC
              have KR : Calls Tryz.prog 31 #[.string CB] wr fun e w'' => e = .returned (.tuple #[.string ⟨b.toArray⟩, .bool true]) ∧ Below wr.heap.size wr w'' := KR
              have HRC : Hid (codeR LN = some b) := HRC
              have hb4 := code_len HRC.out
              obtain ⟨BB, hBB⟩ : ∃ z : ByteArray, z = ⟨b.toArray⟩ := ⟨_, rfl⟩
              rw [← hBB] at KR
              obtain ⟨O2, hO2⟩ : ∃ z : ByteArray, z = O ++ BB := ⟨_, rfl⟩
              have HO2 : Hid (O2 = ⟨(o ++ b).toArray⟩) := by show _ = _; rw [hO2, HO.out.1, hBB, ba_app]
              have hadd : ∀ wx, (Op.stringOp .add O BB).run Tryz.prog wx = .ok (.string O2) wx := fun wx => by
                rw [hO2]
                refine run_string_add_sum wx _ _ ?_
                have h1 : BB.size = b.length := by rw [hBB]; show Array.size _ = _; simp
                obtain ⟨_, h2, h3, h4⟩ := HO.out
                omega
              have HGO : Hid ((k + 1 ≤ S.size ∧ AkI l (o ++ b) (n + 1) (k + 1) (k + 1)) ∨ (k + 1 = S.size + 1 ∧ asmN (numd 0 (spl l)) [] = (o ++ b, 0, 0))) := by
                obtain ⟨t', h1, h2⟩ := HASM2.out
                refine h2 _ ?_
                rw [h1, asmN]
                simp only []
                rw [HW.out, if_pos rfl, HRC.out]
              have HLE : Hid ((o ++ b).length ≤ 4 * (n + 1)) := by show _ ≤ _; rw [List.length_append]; have := HO.out.2.1; omega
              generalize parI C = PI at K8
              generalize parE C = PE at K8
              unfold In.val at K8
              clear hr hBB hO2 hb4 K31
              go_wp2_with fail
              refine KR.mono ?_
              rintro e w2 ⟨rfl, hb2⟩
              clear KR
              have HB2 : Hid (Below w.heap.size w w2) := below_tr HB.out hb2
              have K := K8.out w2
              clear hb2
              go_wp2_with fail
              refine K.mono ?_
              rintro e w3 ⟨rfl, hb3⟩
              clear K
              have hb3' := below_tr HB2.out hb3
              obtain ⟨W3, hW3⟩ : ∃ z, w3.alloc (.cells #[.string PI.name, .int .i64 PI.rs, .int .i64 PI.rt, .int .i64 PI.rd, .int .i64 PI.sa, .int .u32 (PI.imm : Int)] 24) = z := ⟨_, rfl⟩
              have HB3 : Hid (Below w.heap.size w W3) := by rw [← hW3]; exact hb3'.alloc hb3'.size _
              clear hb3 hb3'
              go_wp2
              go_roundw
              case rel => exact ⟨O2, (o ++ b), n + 1, k + 1, k + 1, by first | rfl | simp, by first | rfl | simp, by first | rfl | simp, by first | rfl | simp, HO2.out, HLE.out, by have := HO.out.2.2.1; omega, by omega, HGO.out, HB3.out⟩
              case measure => simp [intOf]; omega
            | none =>
              rw [hr] at KR HRC
              have KR : Calls Tryz.prog 31 #[.string CB] wr fun e w'' => e = .returned (.tuple #[.string ⟨#[]⟩, .bool false]) ∧ Below wr.heap.size wr w'' := KR
              have HRC : Hid (codeR LN = (insR C).map (fun i => (W.putBeS (encN i) 4).toList)) := HRC
              clear hr K31
              cases hi : insR C with
              | none =>
                rw [hi] at HRC
                have HRC : Hid (codeR LN = none) := HRC
                have hpe : parE C = 110 := by unfold parE; rw [hi]; rfl
                rw [hpe] at K8
                generalize parI C = PI at K8
                unfold In.val at K8
                have HE : Hid (FR = .tuple #[.string ⟨#[]⟩, .int .i64 (n : Int), .int .i64 110]) := by
                  obtain ⟨t', h1, _⟩ := HASM2.out
                  rw [asmN] at h1
                  simp only [] at h1
                  rw [HW.out, if_pos rfl, HRC.out] at h1
                  exact HFR.out _ _ _ h1
                clear hi hpe
                go_wp2_with fail
                refine KR.mono ?_
                rintro e w2 ⟨rfl, hb2⟩
                clear KR
                have HB2 : Hid (Below w.heap.size w w2) := below_tr HB.out hb2
                have K := K8.out w2
                clear hb2
                go_wp2_with fail
                refine K.mono ?_
                rintro e w3 ⟨rfl, hb3⟩
                clear K
                have hb3' := below_tr HB2.out hb3
                obtain ⟨W3, hW3⟩ : ∃ z, w3.alloc (.cells #[.string PI.name, .int .i64 PI.rs, .int .i64 PI.rt, .int .i64 PI.rd, .int .i64 PI.sa, .int .u32 (PI.imm : Int)] 24) = z := ⟨_, rfl⟩
                have HB3 : Hid (Below w.heap.size w W3) := by rw [← hW3]; exact hb3'.alloc hb3'.size _
                clear hb3 hb3'
                go_wp2
                first | go_ret | skip
                refine bodyPost_ret (v := FR) ?_ rfl (HPO.out _ _ rfl HB3.out)
                rw [HE.out]
                simp [results, Tryz.results12, go_sem]
              | some i =>
                rw [hi] at HRC
                have HRC : Hid (codeR LN = some (W.putBeS (encN i) 4).toList) := HRC
                have hpe : parE C = 0 := by unfold parE; rw [hi]; rfl
                have hpi : parI C = i := by unfold parI; rw [hi]; rfl
                rw [hpe, hpi] at K8
                obtain ⟨his, _⟩ := (insR_iff C i).1 hi
                have hbd := in_bd his
                have hel := enc_lt i his
                have K15 : Hid (∀ w', Calls Tryz.prog 15 #[i.val] w' fun e w'' => e = .returned (.tuple #[.int .u32 (encN i : Int), .bool (isIns i)]) ∧ Below w'.heap.size w' w'') := fun w' => encD15 i (by have := hbd.imm; omega) w'
                unfold In.val at K8 K15
                generalize isIns i = ib at K15
                obtain ⟨en, hen⟩ : ∃ z, z = encN i := ⟨_, rfl⟩
                rw [← hen] at K15 hel HRC
                have hue : IntKind.u64.wrap (en : Int) = (en : Int) := by rw [IntKind.wrap_u64]; omega
                have K32 : Hid (∀ w', Calls Tryz.prog 32 #[.int .u64 (en : Int), .int .i64 4] w' fun e w'' => e = .returned (.string (W.putBeS en 4)) ∧ Below w'.heap.size w' w'') := fun w' => W.rputBe_any en (by omega) 4 w'
                have hps := pb_len en
                have hb4 : (W.putBeS en 4).toList.length = 4 := by rw [bt_len]; exact hps
                obtain ⟨BB, hBB⟩ : ∃ z : ByteArray, z = W.putBeS en 4 := ⟨_, rfl⟩
                rw [← hBB] at K32 HRC hps hb4
                obtain ⟨O2, hO2⟩ : ∃ z : ByteArray, z = O ++ BB := ⟨_, rfl⟩
                have HO2 : Hid (O2 = ⟨(o ++ BB.toList).toArray⟩) := by show _ = _; rw [hO2, HO.out.1, ← ba_app, ba_list]
                have hadd : ∀ wx, (Op.stringOp .add O BB).run Tryz.prog wx = .ok (.string O2) wx := fun wx => by
                  rw [hO2]
                  refine run_string_add_sum wx _ _ ?_
                  obtain ⟨_, h2, h3, h4⟩ := HO.out
                  omega
                have HGO : Hid ((k + 1 ≤ S.size ∧ AkI l (o ++ BB.toList) (n + 1) (k + 1) (k + 1)) ∨ (k + 1 = S.size + 1 ∧ asmN (numd 0 (spl l)) [] = (o ++ BB.toList, 0, 0))) := by
                  obtain ⟨t', h1, h2⟩ := HASM2.out
                  refine h2 _ ?_
                  rw [h1, asmN]
                  simp only []
                  rw [HW.out, if_pos rfl, HRC.out]
                have HLE : Hid ((o ++ BB.toList).length ≤ 4 * (n + 1)) := by show _ ≤ _; rw [List.length_append]; have := HO.out.2.1; omega
                clear hi hpe hpi his hbd hel hen hBB hO2 hb4 hps
                go_wp2_with fail
                refine KR.mono ?_
                rintro e w2 ⟨rfl, hb2⟩
                clear KR
                have HB2 : Hid (Below w.heap.size w w2) := below_tr HB.out hb2
                have K := K8.out w2
                clear hb2
                go_wp2_with fail
                refine K.mono ?_
                rintro e w3 ⟨rfl, hb3⟩
                clear K
                have hb3' := below_tr HB2.out hb3
                obtain ⟨W3, hW3⟩ : ∃ z, w3.alloc (.cells #[.string i.name, .int .i64 i.rs, .int .i64 i.rt, .int .i64 i.rd, .int .i64 i.sa, .int .u32 (i.imm : Int)] 24) = z := ⟨_, rfl⟩
                have HB3 : Hid (Below w.heap.size w W3) := by rw [← hW3]; exact hb3'.alloc hb3'.size _
                have I3 : In6 i w3.heap.size W3 := by rw [← hW3]; exact In6.new i w3
                obtain ⟨d0, d1, d2, d3, d4, d5⟩ := I3.cells
                have K := K15.out W3
                clear hb3 hb3' I3
                go_wp2_with fail
                refine K.mono ?_
                rintro e w4 ⟨rfl, hb4⟩
                clear K
                have HB4 : Hid (Below w.heap.size w w4) := below_tr HB3.out hb4
                have K := K32.out w4
                clear hb4 hW3 d0 d1 d2 d3 d4 d5
                go_wp2_with fail
                refine K.mono ?_
                rintro e w5 ⟨rfl, hb5⟩
                clear K
                have HB5 : Hid (Below w.heap.size w w5) := below_tr HB4.out hb5
                clear hb5
                go_wp2
                go_roundw
                case rel => exact ⟨O2, (o ++ BB.toList), n + 1, k + 1, k + 1, by first | rfl | simp, by first | rfl | simp, by first | rfl | simp, by first | rfl | simp, HO2.out, HLE.out, by have := HO.out.2.2.1; omega, by omega, HGO.out, HB5.out⟩
                case measure => simp [intOf]; omega
        · have q10 : ((cn : Int) != 10) = true := by simp; omega
          have HNXT : Hid (AkI l o n f (k + 1)) := by
            obtain ⟨h, hh⟩ := HCC.out
            exact ak_next HAK.out h (by rw [hh]; intro e; exact hc10 (by rw [HCN.out, e]; rfl))
          clear hc10
          go_wp2
          go_roundw
          case rel => exact ⟨O, o, n, f, k + 1, by first | rfl | simp, by first | rfl | simp, by first | rfl | simp, by first | rfl | simp, HO.out.1, HO.out.2.1, by have := HO.out.2.2.1; omega, by omega, .inl ⟨by omega, HNXT.out⟩, HB.out⟩
          case measure => simp [intOf]; omega
      · have hke : k = S.size := by omega
        have gkl : ¬ (k : Int) < (S.size : Int) := by omega
        have gkl2 : decide ((k : Int) < (S.size : Int)) = false := decide_eq_false gkl
        have HASM2 : Hid (∃ t, asmN (numd 0 (spl l)) [] = asmN ((n, LN) :: t) o ∧ ∀ o', asmN (numd 0 (spl l)) [] = asmN t o' → (k + 1 ≤ S.size ∧ AkI l o' (n + 1) (k + 1) (k + 1)) ∨ (k + 1 = S.size + 1 ∧ asmN (numd 0 (spl l)) [] = (o', 0, 0))) := by
          refine ⟨[], ?_, fun o' h => .inr ⟨by omega, h⟩⟩
          rw [HLN.out.1]
          have h := HAK.out
          rw [hke, HS.out.2] at h ⊢
          exact ak_last h
        clear hlt hke
        cases hw : hasW LN with
        | false =>
          have HGO : Hid ((k + 1 ≤ S.size ∧ AkI l o (n + 1) (k + 1) (k + 1)) ∨ (k + 1 = S.size + 1 ∧ asmN (numd 0 (spl l)) [] = (o, 0, 0))) := by
            obtain ⟨t, h1, h2⟩ := HASM2.out
            refine h2 o ?_
            rw [h1, asmN]
            simp only []
            rw [hw, if_neg (by decide)]
          cases hLc : LN with
          | nil =>
            have he : LB.toList.isEmpty = true := by rw [HLN.out.2.2, bal, hLc]; rfl
            clear hw hLc
            go_wp2
            go_roundw
            case rel => exact ⟨O, o, n + 1, k + 1, k + 1, by first | rfl | simp, by first | rfl | simp, by first | rfl | simp, by first | rfl | simp, HO.out.1, by have := HO.out.2.1; omega, by have := HO.out.2.2.1; omega, by omega, HGO.out, HB.out⟩
            case measure => simp [intOf]; omega
          | cons d t =>
            have hdd : d = 35 := by rw [hLc] at hw; simpa [hasW] using hw
            have hbl : LB.toList = d :: t := by rw [HLN.out.2.2, bal, hLc]
            have he : LB.toList.isEmpty = false := by rw [hbl]; rfl
            have hs0 : 0 < LB.size := by rw [← bt_len, hbl]; simp
            have gs0 : (0 : Int) < (LB.size : Int) := by omega
            have ix0 : LB[0].toNat = 35 := by rw [bt_get LB 0 hs0 (by rw [bt_len]; exact hs0)]; simp only [hbl]; rw [show (d :: t)[0] = d from rfl, hdd]; rfl
            clear hw hLc hdd hbl
            go_wp2
            go_roundw
            case rel => exact ⟨O, o, n + 1, k + 1, k + 1, by first | rfl | simp, by first | rfl | simp, by first | rfl | simp, by first | rfl | simp, HO.out.1, by have := HO.out.2.1; omega, by have := HO.out.2.2.1; omega, by omega, HGO.out, HB.out⟩
            case measure => simp [intOf]; omega
        | true =>
          have hbl : ∃ d t, LN = d :: t ∧ d ≠ 35 := by
            cases hLc : LN with
            | nil => rw [hLc] at hw; cases hw
            | cons d t => exact ⟨d, t, rfl, by rw [hLc] at hw; simpa [hasW] using hw⟩
          obtain ⟨d, t, hLd, hd35⟩ := hbl
          have hbl : LB.toList = d :: t := by rw [HLN.out.2.2, bal, hLd]
          have he : LB.toList.isEmpty = false := by rw [hbl]; rfl
          have hs0 : 0 < LB.size := by rw [← bt_len, hbl]; simp
          have gs0 : (0 : Int) < (LB.size : Int) := by omega
          obtain ⟨dn, hdn⟩ : ∃ z : Nat, z = d.toNat := ⟨_, rfl⟩
          have ix0 : LB[0].toNat = dn := by rw [bt_get LB 0 hs0 (by rw [bt_len]; exact hs0)]; simp only [hbl]; rw [show (d :: t)[0] = d from rfl, hdn]
          have q35 : ((dn : Int) == 35) = false := by
            simp
            intro e
            exact hd35 (UInt8.toNat_inj.1 (by rw [← hdn]; show dn = 35; omega))
          have K30 := cut30 LN HLN.out.2.1 wr
          have hcl := cutL_len LN
          rw [← HLN.out.2.2] at K30
          obtain ⟨C, hC⟩ : ∃ z, z = cutL LN := ⟨_, rfl⟩
          rw [← hC] at K30 hcl
          have hcn : C.length ≤ 100000 := by have := HLN.out.2.1; omega
          have HRC : Hid (codeR LN = match rwO C with
            | some b => some b
            | none => (insR C).map (fun i => (W.putBeS (encN i) 4).toList)) := by show _ = _; rw [hC]; exact rw_code LN
          have K31 : Hid (∀ w', Calls Tryz.prog 31 #[.string ⟨C.toArray⟩] w' fun e w'' => e = .returned (.tuple #[.string ⟨((rwO C).getD []).toArray⟩, .bool (rwO C).isSome]) ∧ Below w'.heap.size w' w'') := fun w' => raw31 C hcn w'
          have K8 : Hid (∀ w', Calls Tryz.prog 8 #[.string ⟨C.toArray⟩] w' fun e w'' => e = .returned (.tuple #[(parI C).val, .int .i64 (parE C)]) ∧ Below w'.heap.size w' w'') := fun w' => rparse8 C hcn w'
          obtain ⟨CB, hCB⟩ : ∃ z : ByteArray, z = ⟨C.toArray⟩ := ⟨_, rfl⟩
          rw [← hCB] at K30 K31 K8
          have HW : Hid (hasW LN = true) := hw
          clear hw hLd hd35 hbl hdn hC hcl hcn hCB
          go_wp2_with fail
          refine K30.mono ?_
          rintro e w1 ⟨rfl, hw1⟩
          obtain rfl : wr = w1 := hw1.symm
          clear K30 hw1
          have KR := K31.out wr
          cases hr : rwO C with
          | some b =>
            rw [hr] at KR HRC
            have KR : Calls Tryz.prog 31 #[.string CB] wr fun e w'' => e = .returned (.tuple #[.string ⟨b.toArray⟩, .bool true]) ∧ Below wr.heap.size wr w'' := KR
            have HRC : Hid (codeR LN = some b) := HRC
            have hb4 := code_len HRC.out
            obtain ⟨BB, hBB⟩ : ∃ z : ByteArray, z = ⟨b.toArray⟩ := ⟨_, rfl⟩
            rw [← hBB] at KR
            obtain ⟨O2, hO2⟩ : ∃ z : ByteArray, z = O ++ BB := ⟨_, rfl⟩
            have HO2 : Hid (O2 = ⟨(o ++ b).toArray⟩) := by show _ = _; rw [hO2, HO.out.1, hBB, ba_app]
            have hadd : ∀ wx, (Op.stringOp .add O BB).run Tryz.prog wx = .ok (.string O2) wx := fun wx => by
              rw [hO2]
              refine run_string_add_sum wx _ _ ?_
              have h1 : BB.size = b.length := by rw [hBB]; show Array.size _ = _; simp
              obtain ⟨_, h2, h3, h4⟩ := HO.out
              omega
            have HGO : Hid ((k + 1 ≤ S.size ∧ AkI l (o ++ b) (n + 1) (k + 1) (k + 1)) ∨ (k + 1 = S.size + 1 ∧ asmN (numd 0 (spl l)) [] = (o ++ b, 0, 0))) := by
              obtain ⟨t', h1, h2⟩ := HASM2.out
              refine h2 _ ?_
              rw [h1, asmN]
              simp only []
              rw [HW.out, if_pos rfl, HRC.out]
            have HLE : Hid ((o ++ b).length ≤ 4 * (n + 1)) := by show _ ≤ _; rw [List.length_append]; have := HO.out.2.1; omega
            generalize parI C = PI at K8
            generalize parE C = PE at K8
            unfold In.val at K8
            clear hr hBB hO2 hb4 K31
            go_wp2_with fail
            refine KR.mono ?_
            rintro e w2 ⟨rfl, hb2⟩
            clear KR
            have HB2 : Hid (Below w.heap.size w w2) := below_tr HB.out hb2
            have K := K8.out w2
            clear hb2
            go_wp2_with fail
            refine K.mono ?_
            rintro e w3 ⟨rfl, hb3⟩
            clear K
            have hb3' := below_tr HB2.out hb3
            obtain ⟨W3, hW3⟩ : ∃ z, w3.alloc (.cells #[.string PI.name, .int .i64 PI.rs, .int .i64 PI.rt, .int .i64 PI.rd, .int .i64 PI.sa, .int .u32 (PI.imm : Int)] 24) = z := ⟨_, rfl⟩
            have HB3 : Hid (Below w.heap.size w W3) := by rw [← hW3]; exact hb3'.alloc hb3'.size _
            clear hb3 hb3'
            go_wp2
            go_roundw
            case rel => exact ⟨O2, (o ++ b), n + 1, k + 1, k + 1, by first | rfl | simp, by first | rfl | simp, by first | rfl | simp, by first | rfl | simp, HO2.out, HLE.out, by have := HO.out.2.2.1; omega, by omega, HGO.out, HB3.out⟩
            case measure => simp [intOf]; omega
          | none =>
            rw [hr] at KR HRC
            have KR : Calls Tryz.prog 31 #[.string CB] wr fun e w'' => e = .returned (.tuple #[.string ⟨#[]⟩, .bool false]) ∧ Below wr.heap.size wr w'' := KR
            have HRC : Hid (codeR LN = (insR C).map (fun i => (W.putBeS (encN i) 4).toList)) := HRC
            clear hr K31
            cases hi : insR C with
            | none =>
              rw [hi] at HRC
              have HRC : Hid (codeR LN = none) := HRC
              have hpe : parE C = 110 := by unfold parE; rw [hi]; rfl
              rw [hpe] at K8
              generalize parI C = PI at K8
              unfold In.val at K8
              have HE : Hid (FR = .tuple #[.string ⟨#[]⟩, .int .i64 (n : Int), .int .i64 110]) := by
                obtain ⟨t', h1, _⟩ := HASM2.out
                rw [asmN] at h1
                simp only [] at h1
                rw [HW.out, if_pos rfl, HRC.out] at h1
                exact HFR.out _ _ _ h1
              clear hi hpe
              go_wp2_with fail
              refine KR.mono ?_
              rintro e w2 ⟨rfl, hb2⟩
              clear KR
              have HB2 : Hid (Below w.heap.size w w2) := below_tr HB.out hb2
              have K := K8.out w2
              clear hb2
              go_wp2_with fail
              refine K.mono ?_
              rintro e w3 ⟨rfl, hb3⟩
              clear K
              have hb3' := below_tr HB2.out hb3
              obtain ⟨W3, hW3⟩ : ∃ z, w3.alloc (.cells #[.string PI.name, .int .i64 PI.rs, .int .i64 PI.rt, .int .i64 PI.rd, .int .i64 PI.sa, .int .u32 (PI.imm : Int)] 24) = z := ⟨_, rfl⟩
              have HB3 : Hid (Below w.heap.size w W3) := by rw [← hW3]; exact hb3'.alloc hb3'.size _
              clear hb3 hb3'
              go_wp2
              first | go_ret | skip
              refine bodyPost_ret (v := FR) ?_ rfl (HPO.out _ _ rfl HB3.out)
              rw [HE.out]
              simp [results, Tryz.results12, go_sem]
            | some i =>
              rw [hi] at HRC
              have HRC : Hid (codeR LN = some (W.putBeS (encN i) 4).toList) := HRC
              have hpe : parE C = 0 := by unfold parE; rw [hi]; rfl
              have hpi : parI C = i := by unfold parI; rw [hi]; rfl
              rw [hpe, hpi] at K8
              obtain ⟨his, _⟩ := (insR_iff C i).1 hi
              have hbd := in_bd his
              have hel := enc_lt i his
              have K15 : Hid (∀ w', Calls Tryz.prog 15 #[i.val] w' fun e w'' => e = .returned (.tuple #[.int .u32 (encN i : Int), .bool (isIns i)]) ∧ Below w'.heap.size w' w'') := fun w' => encD15 i (by have := hbd.imm; omega) w'
              unfold In.val at K8 K15
              generalize isIns i = ib at K15
              obtain ⟨en, hen⟩ : ∃ z, z = encN i := ⟨_, rfl⟩
              rw [← hen] at K15 hel HRC
              have hue : IntKind.u64.wrap (en : Int) = (en : Int) := by rw [IntKind.wrap_u64]; omega
              have K32 : Hid (∀ w', Calls Tryz.prog 32 #[.int .u64 (en : Int), .int .i64 4] w' fun e w'' => e = .returned (.string (W.putBeS en 4)) ∧ Below w'.heap.size w' w'') := fun w' => W.rputBe_any en (by omega) 4 w'
              have hps := pb_len en
              have hb4 : (W.putBeS en 4).toList.length = 4 := by rw [bt_len]; exact hps
              obtain ⟨BB, hBB⟩ : ∃ z : ByteArray, z = W.putBeS en 4 := ⟨_, rfl⟩
              rw [← hBB] at K32 HRC hps hb4
              obtain ⟨O2, hO2⟩ : ∃ z : ByteArray, z = O ++ BB := ⟨_, rfl⟩
              have HO2 : Hid (O2 = ⟨(o ++ BB.toList).toArray⟩) := by show _ = _; rw [hO2, HO.out.1, ← ba_app, ba_list]
              have hadd : ∀ wx, (Op.stringOp .add O BB).run Tryz.prog wx = .ok (.string O2) wx := fun wx => by
                rw [hO2]
                refine run_string_add_sum wx _ _ ?_
                obtain ⟨_, h2, h3, h4⟩ := HO.out
                omega
              have HGO : Hid ((k + 1 ≤ S.size ∧ AkI l (o ++ BB.toList) (n + 1) (k + 1) (k + 1)) ∨ (k + 1 = S.size + 1 ∧ asmN (numd 0 (spl l)) [] = (o ++ BB.toList, 0, 0))) := by
                obtain ⟨t', h1, h2⟩ := HASM2.out
                refine h2 _ ?_
                rw [h1, asmN]
                simp only []
                rw [HW.out, if_pos rfl, HRC.out]
              have HLE : Hid ((o ++ BB.toList).length ≤ 4 * (n + 1)) := by show _ ≤ _; rw [List.length_append]; have := HO.out.2.1; omega
              clear hi hpe hpi his hbd hel hen hBB hO2 hb4 hps
              go_wp2_with fail
              refine KR.mono ?_
              rintro e w2 ⟨rfl, hb2⟩
              clear KR
              have HB2 : Hid (Below w.heap.size w w2) := below_tr HB.out hb2
              have K := K8.out w2
              clear hb2
              go_wp2_with fail
              refine K.mono ?_
              rintro e w3 ⟨rfl, hb3⟩
              clear K
              have hb3' := below_tr HB2.out hb3
              obtain ⟨W3, hW3⟩ : ∃ z, w3.alloc (.cells #[.string i.name, .int .i64 i.rs, .int .i64 i.rt, .int .i64 i.rd, .int .i64 i.sa, .int .u32 (i.imm : Int)] 24) = z := ⟨_, rfl⟩
              have HB3 : Hid (Below w.heap.size w W3) := by rw [← hW3]; exact hb3'.alloc hb3'.size _
              have I3 : In6 i w3.heap.size W3 := by rw [← hW3]; exact In6.new i w3
              obtain ⟨d0, d1, d2, d3, d4, d5⟩ := I3.cells
              have K := K15.out W3
              clear hb3 hb3' I3
              go_wp2_with fail
              refine K.mono ?_
              rintro e w4 ⟨rfl, hb4⟩
              clear K
              have HB4 : Hid (Below w.heap.size w w4) := below_tr HB3.out hb4
              have K := K32.out w4
              clear hb4 hW3 d0 d1 d2 d3 d4 d5
              go_wp2_with fail
              refine K.mono ?_
              rintro e w5 ⟨rfl, hb5⟩
              clear K
              have HB5 : Hid (Below w.heap.size w w5) := below_tr HB4.out hb5
              clear hb5
              go_wp2
              go_roundw
              case rel => exact ⟨O2, (o ++ BB.toList), n + 1, k + 1, k + 1, by first | rfl | simp, by first | rfl | simp, by first | rfl | simp, by first | rfl | simp, HO2.out, HLE.out, by have := HO.out.2.2.1; omega, by omega, HGO.out, HB5.out⟩
              case measure => simp [intOf]; omega
    · have gk : ¬ (k : Int) ≤ (S.size : Int) := by omega
      have gk2 : decide ((k : Int) ≤ (S.size : Int)) = false := decide_eq_false gk
      have HE : Hid (FR = .tuple #[.string O, .int .i64 0, .int .i64 0]) := by show _ = _; rw [HFR.out _ _ _ hfin, HO.out.1]; rfl
      clear hfin hks hol hnk hOs
      go_wp2
      first | go_ret | skip
      refine bodyPost_ret (v := FR) ?_ rfl (HPO.out _ _ rfl HB.out)
      rw [HE.out]
      simp [results, Tryz.results12, go_sem]
end Go.Proofs.YtglkkeelocdanaaGreatDoor
