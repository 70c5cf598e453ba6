/- What is proved here: the document's Fit; a symbol's row: the program's and the document's. -/
import Derived.Test.YtgdflobcbhnimaaGreatNd
import Derived.Test.YtgdflobcbhnimaaGreatWRef
import Derived.Test.YtgdflobcbhnimaaGreatWPut
import Derived.Test.YtgdflobcbhnimaaGreatBd
import Derived.OrdersHeld
import Derived.Deep.RegionHeld
import Derived.RegionTactic
import Derived.OwnWalk
namespace Go.Proofs.YtgdflobcbhnimaaGreat
open Go.RowKit
set_option linter.unusedVariables false
set_option linter.unusedSimpArgs false
set_option maxRecDepth 100000
set_option maxHeartbeats 1000000 in
theorem rfit17 (gs : List Sy) (v : Value) (w : World) (hs : SlY w v gs) :
    Calls Tryz.prog 22 #[v] w fun r w' => r = .returned (.bool (fitL gs)) ∧ Below w.heap.size w w' := by
  have HSK := hs
  obtain ⟨ao, cap, rfl, s1, s2, s3, s4⟩ := hs
  have HFE : Hid (fitL gs = (decide (gs.length ≤ 200) && gs.all fitY)) := rfl
  generalize fitL gs = FE at HFE ⊢
  have HS : Hid (SlY w (.slice ao gs.length cap) gs) := HSK
  clear s4 s3 HSK
  by_cases h16 : gs.length ≤ 200
  · have i16 : ¬ (200 : Int) < (gs.length : Int) := by omega
    have d16 := decide_eq_false i16
    go_enter Tryz.func22, Tryz.ntmps22
    go_wp2
    go_loopw [3] (fun x wr => ∃ k : Nat, x = .int .i64 (k : Int) ∧ k ≤ gs.length ∧ (gs.take k).all fitY = true ∧ Below w.heap.size w wr) (fun x _ => gs.length - (intOf x).toNat)
    case atStart => exact ⟨0, rfl, Nat.zero_le _, rfl, Below.refl _ _⟩
    case round =>
      obtain ⟨k, rfl, hk, hall, hbr⟩ := hrel
      by_cases hlt : k < gs.length
      · obtain ⟨ao', cap', he, _, _, _, h4⟩ := HS.out
        injection he with he1 he2 he3
        obtain ⟨b, o, hbo, h7⟩ := h4 k hlt
        rw [← he1] at hbo
        subst hbo
        have h7 := h7.keep hbr
        obtain ⟨g, hg⟩ : ∃ g, g = gs[k] := ⟨_, rfl⟩
        have hmem : g ∈ gs := by rw [hg]; exact List.getElem_mem hlt
        rw [← hg] at h7
        have KF := fitSym23 g wr
        have htk : (gs.take (k + 1)).all fitY = fitY g := by
          rw [List.take_succ_eq_append_getElem hlt, List.all_append, hall, hg]; simp
        have HA : Hid ((gs.take (k + 1)).all fitY = fitY g ∧ (fitY g = false → gs.all fitY = false)) := ⟨htk, fun h => by
          cases hh : gs.all fitY with
          | false => rfl
          | true => rw [List.all_eq_true] at hh; rw [hh g hmem] at h; cases h⟩
        clear htk hall hg hmem h4 he1 he2 he3
        obtain ⟨r0, r1, r2, r3, r4⟩ := h7
        unfold Sy.val at KF
        cases hp : fitY g with
        | true =>
          rw [hp] at KF HA
          clear hp
          go_wp2_with fail
          refine KF.mono ?_
          rintro e w1 ⟨rfl, hb1⟩
          clear KF r0 r1 r2 r3 r4
          go_wp2
          go_roundw
          case rel => exact ⟨k + 1, by go_num, by omega, HA.out.1, below_tr hbr hb1⟩
          case measure => simp [intOf]; omega
        | false =>
          rw [hp] at KF HA
          clear hp
          go_wp2_with fail
          refine KF.mono ?_
          rintro e w1 ⟨rfl, hb1⟩
          clear KF r0 r1 r2 r3 r4
          go_wp2
          go_ret
          exact ⟨by rw [HFE.out, HA.out.2 (by first | rfl | trivial), Bool.and_false]; rfl, below_tr hbr hb1⟩
      · have HT : Hid (gs.all fitY = true) := by rw [List.take_of_length_le (by omega)] at hall; exact hall
        go_wp2
        go_ret
        exact ⟨by rw [HFE.out, HT.out, decide_eq_true h16]; rfl, hbr⟩
  · have i16 : (200 : Int) < (gs.length : Int) := by omega
    have d16 := decide_eq_true i16
    go_enter Tryz.func22, Tryz.ntmps22
    go_wp2
    go_ret
    exact ⟨by rw [HFE.out, decide_eq_false h16]; rfl, Below.refl _ _⟩
theorem put48 (v n : Nat) (hn : n ≤ 8) (w : World) : Calls Tryz.prog 116 #[.int .u64 (v : Int), .int .i64 (n : Int)] w fun e w' => e = .returned (.string ⟨(bN n v).toArray⟩) ∧ Below w.heap.size w w' := by
  have h := W.putBe_any v (n : Int) w
  have e : W.putBeS v (n : Int) = ⟨(bN n v).toArray⟩ := by
    unfold W.putBeS bN
    rw [if_pos (by omega)]
    rfl
  rw [e] at h
  exact h
theorem word44 (v : Nat) (hv : v < 4294967296) (w : World) : Calls Tryz.prog 106 #[.int .u32 (v : Int)] w fun e w' => e = .returned (.string ⟨(bN 4 v).toArray⟩) ∧ Below w.heap.size w w' := by
  have K := put48 v 4 (by decide) w
  have hvi : (v : Int) < 4294967296 := by omega
  have h2 : (v : Int) % 18446744073709551616 = (v : Int) := by omega
  generalize (⟨(bN 4 v).toArray⟩ : ByteArray) = X at K ⊢
  clear hv
  go_enter Tryz.func106, Tryz.ntmps106
  go_wp2_with fail
  refine K.mono ?_
  rintro e w1 ⟨rfl, hb1⟩
  go_wp2
  go_ret
  exact ⟨rfl, hb1⟩
set_option maxHeartbeats 2000000 in
theorem row35 (g : Sy) (o : Nat) (ho : o < 4294967296) (hva : g.value < 4294967296) (hsi : g.size < 4294967296) (hb0 : 0 ≤ g.bind) (hb1 : g.bind ≤ 255) (hp0 : 0 ≤ g.part) (hp1 : g.part ≤ 65535) (w : World) :
    Calls Tryz.prog 104 #[g.val, .int .u32 (o : Int)] w fun e w' => e = .returned (.string ⟨(rowB g o).toArray⟩) ∧ Below w.heap.size w w' := by
  obtain ⟨nm, va, si, bi0, pa0⟩ := g
  simp only at hva hsi hb0 hb1 hp0 hp1
  obtain ⟨bi, rfl⟩ := Int.eq_ofNat_of_zero_le hb0
  obtain ⟨pa, rfl⟩ := Int.eq_ofNat_of_zero_le hp0
  obtain ⟨Wb, hW, hbl, hz, q0, q1, q2, q3, q4⟩ := box5 w ⟨nm, va, si, (bi : Int), (pa : Int)⟩
  simp only at hW q0 q1 q2 q3 q4
  have HB : Hid (Below w.heap.size w Wb) := hbl
  have KA : Hid (∀ w', Calls Tryz.prog 106 #[.int .u32 (o : Int)] w' fun e w'' => e = .returned (.string ⟨(bN 4 o).toArray⟩) ∧ Below w'.heap.size w' w'') := word44 o ho
  have KB : Hid (∀ w', Calls Tryz.prog 106 #[.int .u32 (va : Int)] w' fun e w'' => e = .returned (.string ⟨(bN 4 va).toArray⟩) ∧ Below w'.heap.size w' w'') := word44 va hva
  have KC : Hid (∀ w', Calls Tryz.prog 106 #[.int .u32 (si : Int)] w' fun e w'' => e = .returned (.string ⟨(bN 4 si).toArray⟩) ∧ Below w'.heap.size w' w'') := word44 si hsi
  obtain ⟨b16, h16⟩ : ∃ z, z = bi * 16 := ⟨_, rfl⟩
  have KD : Hid (∀ w', Calls Tryz.prog 116 #[.int .u64 (b16 : Int), .int .i64 1] w' fun e w'' => e = .returned (.string ⟨(bN 1 b16).toArray⟩) ∧ Below w'.heap.size w' w'') := put48 b16 1 (by decide)
  have KZ : Hid (∀ w', Calls Tryz.prog 116 #[.int .u64 0, .int .i64 1] w' fun e w'' => e = .returned (.string ⟨(bN 1 0).toArray⟩) ∧ Below w'.heap.size w' w'') := put48 0 1 (by decide)
  have KE : Hid (∀ w', Calls Tryz.prog 116 #[.int .u64 (pa : Int), .int .i64 2] w' fun e w'' => e = .returned (.string ⟨(bN 2 pa).toArray⟩) ∧ Below w'.heap.size w' w'') := put48 pa 2 (by decide)
  have HR : Hid ((⟨(rowB ⟨nm, va, si, (bi : Int), (pa : Int)⟩ o).toArray⟩ : ByteArray) = ⟨(bN 4 o).toArray⟩ ++ ⟨(bN 4 va).toArray⟩ ++ ⟨(bN 4 si).toArray⟩ ++ ⟨(bN 1 b16).toArray⟩ ++ ⟨(bN 1 0).toArray⟩ ++ ⟨(bN 2 pa).toArray⟩) := by
    rw [Hid, ba_app, ba_app, ba_app, ba_app, ba_app, h16]
    unfold rowB
    simp [List.append_assoc]
  have hsz : ∀ n v : Nat, (⟨(bN n v).toArray⟩ : ByteArray).size = n := fun n v => by show (bN n v).toArray.size = n; simp [bN_len]
  have sA := hsz 4 o
  have sB := hsz 4 va
  have sC := hsz 4 si
  have sD := hsz 1 b16
  have sZ := hsz 1 0
  have sE := hsz 2 pa
  generalize (⟨(rowB ⟨nm, va, si, (bi : Int), (pa : Int)⟩ o).toArray⟩ : ByteArray) = RR at *
  generalize (⟨(bN 4 o).toArray⟩ : ByteArray) = XA at *
  generalize (⟨(bN 4 va).toArray⟩ : ByteArray) = XB at *
  generalize (⟨(bN 4 si).toArray⟩ : ByteArray) = XC at *
  generalize (⟨(bN 1 b16).toArray⟩ : ByteArray) = XD at *
  generalize (⟨(bN 1 0).toArray⟩ : ByteArray) = XZ at *
  generalize (⟨(bN 2 pa).toArray⟩ : ByteArray) = XE at *
  have eb1 : (bi : Int) % 18446744073709551616 = (bi : Int) := by omega
  have eb2 : (bi : Int) * 16 = (b16 : Int) := by omega
  have eb3 : (b16 : Int) % 18446744073709551616 = (b16 : Int) := by omega
  have eb4 : IntKind.u64.wrap (bi : Int) = (bi : Int) := by rw [IntKind.wrap_u64]; omega
  have eb5 : IntKind.u64.wrap (b16 : Int) = (b16 : Int) := by rw [IntKind.wrap_u64]; omega
  have ep1 : (pa : Int) % 18446744073709551616 = (pa : Int) := by omega
  have ep2 : IntKind.u64.wrap (pa : Int) = (pa : Int) := by rw [IntKind.wrap_u64]; omega
  unfold Sy.val
  clear hsz h16 ho hva hsi hb0 hb1 hp0 hp1 hbl hz
  go_enter Tryz.func104, Tryz.ntmps104
  go_wp2
  refine wp_region_slots (R := Ext) [⟨5, fun v _ => v = .int .u32 (o : Int), fun _ _ _ _ h => h⟩, ⟨6, fun v _ => v = .string XA, fun _ _ _ _ h => h⟩, ⟨7, fun v _ => v = .pointer (some ⟨w.heap.size, 1, none⟩), fun _ _ _ _ h => h⟩, ⟨8, fun v _ => v = .int .u32 (va : Int), fun _ _ _ _ h => h⟩, ⟨9, fun v _ => v = .string XB, fun _ _ _ _ h => h⟩, ⟨10, fun v _ => v = .string (XA ++ XB), fun _ _ _ _ h => h⟩, ⟨11, fun v _ => v = .pointer (some ⟨w.heap.size, 2, none⟩), fun _ _ _ _ h => h⟩, ⟨12, fun v _ => v = .int .u32 (si : Int), fun _ _ _ _ h => h⟩, ⟨13, fun v _ => v = .string XC, fun _ _ _ _ h => h⟩, ⟨14, fun v _ => v = .string (XA ++ XB ++ XC), fun _ _ _ _ h => h⟩, ⟨15, fun v _ => v = .pointer (some ⟨w.heap.size, 3, none⟩), fun _ _ _ _ h => h⟩, ⟨16, fun v _ => v = .int .i64 (bi : Int), fun _ _ _ _ h => h⟩, ⟨17, fun v _ => v = .int .u64 (bi : Int), fun _ _ _ _ h => h⟩, ⟨18, fun v _ => v = .int .u64 (b16 : Int), fun _ _ _ _ h => h⟩, ⟨19, fun v _ => v = .string XD, fun _ _ _ _ h => h⟩, ⟨20, fun v _ => v = .string (XA ++ XB ++ XC ++ XD), fun _ _ _ _ h => h⟩, ⟨21, fun v _ => v = .string XZ, fun _ _ _ _ h => h⟩, ⟨22, fun v _ => v = .string (XA ++ XB ++ XC ++ XD ++ XZ), fun _ _ _ _ h => h⟩, ⟨23, fun v _ => v = .pointer (some ⟨w.heap.size, 4, none⟩), fun _ _ _ _ h => h⟩, ⟨24, fun v _ => v = .int .i64 (pa : Int), fun _ _ _ _ h => h⟩, ⟨25, fun v _ => v = .int .u64 (pa : Int), fun _ _ _ _ h => h⟩, ⟨26, fun v _ => v = .string XE, fun _ _ _ _ h => h⟩, ⟨27, fun v _ => v = .string (XA ++ XB ++ XC ++ XD ++ XZ ++ XE), fun _ _ _ _ h => h⟩, ⟨4, fun v _ => v = .string (XA ++ XB ++ XC ++ XD ++ XZ ++ XE), fun _ _ _ _ h => h⟩] _ (by kernel_rfl) rfl (by kernel_rfl) (Below.drew (Below.refl _ _)) (fun _ _ _ h1 h2 => below_tr h1 h2) (fun QQ => ⟨?_, ?_, ?_, ?_, ?_, ?_, ?_, ?_, ?_, ?_, ?_, ?_, ?_, ?_, ?_, ?_, ?_, ?_, ?_, ?_, ?_, ?_, ?_, ?_, trivial⟩) (fun f wy hR hf => ?_)
  · intro A wx hR hout hdep K hK
    have h1 : A.tmps[1]?.getD undef = .int .u32 (o : Int) := hout 1 (by kernel_rfl)
    refine if_yes (by kernel_rfl) ?_
    simp [go_sem, h1, eb1, eb2, eb3, eb4, eb5, ep1, ep2]
    exact hK.out _ _ (Below.refl _ _) rfl
  · intro A wx hR hout hdep K hK
    have h5 : A.tmps[5]?.getD undef = .int .u32 (o : Int) := hdep 5 (by kernel_rfl)
    refine if_yes (by kernel_rfl) ?_
    simp [go_sem, h5, eb1, eb2, eb3, eb4, eb5, ep1, ep2]
    refine (KA.out wx).mono ?_
    rintro e wG ⟨rfl, hbG⟩
    exact hK.out _ _ hbG rfl
  · intro A wx hR hout hdep K hK
    have h2 : A.tmps[2]?.getD undef = .pointer (some ⟨w.heap.size, 0, none⟩) := hout 2 (by kernel_rfl)
    refine if_yes (by kernel_rfl) ?_
    simp [go_sem, h2, eb1, eb2, eb3, eb4, eb5, ep1, ep2]
    exact hK.out _ _ (Below.refl _ _) rfl
  · intro A wx hR hout hdep K hK
    have h7 : A.tmps[7]?.getD undef = .pointer (some ⟨w.heap.size, 1, none⟩) := hdep 7 (by kernel_rfl)
    refine if_yes (by kernel_rfl) ?_
    have q0 := keep_cell hR q0
    have q1 := keep_cell hR q1
    have q2 := keep_cell hR q2
    have q3 := keep_cell hR q3
    have q4 := keep_cell hR q4
    simp [go_sem, h7, q0, q1, q2, q3, q4, eb1, eb2, eb3, eb4, eb5, ep1, ep2]
    exact hK.out _ _ (Below.refl _ _) rfl
  · intro A wx hR hout hdep K hK
    have h8 : A.tmps[8]?.getD undef = .int .u32 (va : Int) := hdep 8 (by kernel_rfl)
    refine if_yes (by kernel_rfl) ?_
    simp [go_sem, h8, eb1, eb2, eb3, eb4, eb5, ep1, ep2]
    refine (KB.out wx).mono ?_
    rintro e wG ⟨rfl, hbG⟩
    exact hK.out _ _ hbG rfl
  · intro A wx hR hout hdep K hK
    have h6 : A.tmps[6]?.getD undef = .string XA := hdep 6 (by kernel_rfl)
    have h9 : A.tmps[9]?.getD undef = .string XB := hdep 9 (by kernel_rfl)
    refine if_yes (by kernel_rfl) ?_
    simp [go_sem, h6, h9, eb1, eb2, eb3, eb4, eb5, ep1, ep2]
    rw [if_neg (by omega)]
    exact hK.out _ _ (Below.refl _ _) rfl
  · intro A wx hR hout hdep K hK
    have h2 : A.tmps[2]?.getD undef = .pointer (some ⟨w.heap.size, 0, none⟩) := hout 2 (by kernel_rfl)
    refine if_yes (by kernel_rfl) ?_
    simp [go_sem, h2, eb1, eb2, eb3, eb4, eb5, ep1, ep2]
    exact hK.out _ _ (Below.refl _ _) rfl
  · intro A wx hR hout hdep K hK
    have h11 : A.tmps[11]?.getD undef = .pointer (some ⟨w.heap.size, 2, none⟩) := hdep 11 (by kernel_rfl)
    refine if_yes (by kernel_rfl) ?_
    have q0 := keep_cell hR q0
    have q1 := keep_cell hR q1
    have q2 := keep_cell hR q2
    have q3 := keep_cell hR q3
    have q4 := keep_cell hR q4
    simp [go_sem, h11, q0, q1, q2, q3, q4, eb1, eb2, eb3, eb4, eb5, ep1, ep2]
    exact hK.out _ _ (Below.refl _ _) rfl
  · intro A wx hR hout hdep K hK
    have h12 : A.tmps[12]?.getD undef = .int .u32 (si : Int) := hdep 12 (by kernel_rfl)
    refine if_yes (by kernel_rfl) ?_
    simp [go_sem, h12, eb1, eb2, eb3, eb4, eb5, ep1, ep2]
    refine (KC.out wx).mono ?_
    rintro e wG ⟨rfl, hbG⟩
    exact hK.out _ _ hbG rfl
  · intro A wx hR hout hdep K hK
    have h10 : A.tmps[10]?.getD undef = .string (XA ++ XB) := hdep 10 (by kernel_rfl)
    have h13 : A.tmps[13]?.getD undef = .string XC := hdep 13 (by kernel_rfl)
    refine if_yes (by kernel_rfl) ?_
    simp [go_sem, h10, h13, eb1, eb2, eb3, eb4, eb5, ep1, ep2]
    rw [if_neg (by omega)]
    exact hK.out _ _ (Below.refl _ _) rfl
  · intro A wx hR hout hdep K hK
    have h2 : A.tmps[2]?.getD undef = .pointer (some ⟨w.heap.size, 0, none⟩) := hout 2 (by kernel_rfl)
    refine if_yes (by kernel_rfl) ?_
    simp [go_sem, h2, eb1, eb2, eb3, eb4, eb5, ep1, ep2]
    exact hK.out _ _ (Below.refl _ _) rfl
  · intro A wx hR hout hdep K hK
    have h15 : A.tmps[15]?.getD undef = .pointer (some ⟨w.heap.size, 3, none⟩) := hdep 15 (by kernel_rfl)
    refine if_yes (by kernel_rfl) ?_
    have q0 := keep_cell hR q0
    have q1 := keep_cell hR q1
    have q2 := keep_cell hR q2
    have q3 := keep_cell hR q3
    have q4 := keep_cell hR q4
    simp [go_sem, h15, q0, q1, q2, q3, q4, eb1, eb2, eb3, eb4, eb5, ep1, ep2]
    exact hK.out _ _ (Below.refl _ _) rfl
  · intro A wx hR hout hdep K hK
    have h16 : A.tmps[16]?.getD undef = .int .i64 (bi : Int) := hdep 16 (by kernel_rfl)
    refine if_yes (by kernel_rfl) ?_
    simp [go_sem, h16, eb1, eb2, eb3, eb4, eb5, ep1, ep2]
    exact hK.out _ _ (Below.refl _ _) rfl
  · intro A wx hR hout hdep K hK
    have h17 : A.tmps[17]?.getD undef = .int .u64 (bi : Int) := hdep 17 (by kernel_rfl)
    refine if_yes (by kernel_rfl) ?_
    simp [go_sem, h17, eb1, eb2, eb3, eb4, eb5, ep1, ep2]
    exact hK.out _ _ (Below.refl _ _) rfl
  · intro A wx hR hout hdep K hK
    have h18 : A.tmps[18]?.getD undef = .int .u64 (b16 : Int) := hdep 18 (by kernel_rfl)
    refine if_yes (by kernel_rfl) ?_
    simp [go_sem, h18, eb1, eb2, eb3, eb4, eb5, ep1, ep2]
    refine (KD.out wx).mono ?_
    rintro e wG ⟨rfl, hbG⟩
    exact hK.out _ _ hbG rfl
  · intro A wx hR hout hdep K hK
    have h14 : A.tmps[14]?.getD undef = .string (XA ++ XB ++ XC) := hdep 14 (by kernel_rfl)
    have h19 : A.tmps[19]?.getD undef = .string XD := hdep 19 (by kernel_rfl)
    refine if_yes (by kernel_rfl) ?_
    simp [go_sem, h14, h19, eb1, eb2, eb3, eb4, eb5, ep1, ep2]
    rw [if_neg (by omega)]
    exact hK.out _ _ (Below.refl _ _) rfl
  · intro A wx hR hout hdep K hK
    refine if_yes (by kernel_rfl) ?_
    simp [go_sem, eb1, eb2, eb3, eb4, eb5, ep1, ep2]
    refine (KZ.out wx).mono ?_
    rintro e wG ⟨rfl, hbG⟩
    exact hK.out _ _ hbG rfl
  · intro A wx hR hout hdep K hK
    have h20 : A.tmps[20]?.getD undef = .string (XA ++ XB ++ XC ++ XD) := hdep 20 (by kernel_rfl)
    have h21 : A.tmps[21]?.getD undef = .string XZ := hdep 21 (by kernel_rfl)
    refine if_yes (by kernel_rfl) ?_
    simp [go_sem, h20, h21, eb1, eb2, eb3, eb4, eb5, ep1, ep2]
    rw [if_neg (by omega)]
    exact hK.out _ _ (Below.refl _ _) rfl
  · intro A wx hR hout hdep K hK
    have h2 : A.tmps[2]?.getD undef = .pointer (some ⟨w.heap.size, 0, none⟩) := hout 2 (by kernel_rfl)
    refine if_yes (by kernel_rfl) ?_
    simp [go_sem, h2, eb1, eb2, eb3, eb4, eb5, ep1, ep2]
    exact hK.out _ _ (Below.refl _ _) rfl
  · intro A wx hR hout hdep K hK
    have h23 : A.tmps[23]?.getD undef = .pointer (some ⟨w.heap.size, 4, none⟩) := hdep 23 (by kernel_rfl)
    refine if_yes (by kernel_rfl) ?_
    have q0 := keep_cell hR q0
    have q1 := keep_cell hR q1
    have q2 := keep_cell hR q2
    have q3 := keep_cell hR q3
    have q4 := keep_cell hR q4
    simp [go_sem, h23, q0, q1, q2, q3, q4, eb1, eb2, eb3, eb4, eb5, ep1, ep2]
    exact hK.out _ _ (Below.refl _ _) rfl
  · intro A wx hR hout hdep K hK
    have h24 : A.tmps[24]?.getD undef = .int .i64 (pa : Int) := hdep 24 (by kernel_rfl)
    refine if_yes (by kernel_rfl) ?_
    simp [go_sem, h24, eb1, eb2, eb3, eb4, eb5, ep1, ep2]
    exact hK.out _ _ (Below.refl _ _) rfl
  · intro A wx hR hout hdep K hK
    have h25 : A.tmps[25]?.getD undef = .int .u64 (pa : Int) := hdep 25 (by kernel_rfl)
    refine if_yes (by kernel_rfl) ?_
    simp [go_sem, h25, eb1, eb2, eb3, eb4, eb5, ep1, ep2]
    refine (KE.out wx).mono ?_
    rintro e wG ⟨rfl, hbG⟩
    exact hK.out _ _ hbG rfl
  · intro A wx hR hout hdep K hK
    have h22 : A.tmps[22]?.getD undef = .string (XA ++ XB ++ XC ++ XD ++ XZ) := hdep 22 (by kernel_rfl)
    have h26 : A.tmps[26]?.getD undef = .string XE := hdep 26 (by kernel_rfl)
    refine if_yes (by kernel_rfl) ?_
    simp [go_sem, h22, h26, eb1, eb2, eb3, eb4, eb5, ep1, ep2]
    rw [if_neg (by omega)]
    exact hK.out _ _ (Below.refl _ _) rfl
  · intro A wx hR hout hdep K hK
    have h27 : A.tmps[27]?.getD undef = .string (XA ++ XB ++ XC ++ XD ++ XZ ++ XE) := hdep 27 (by kernel_rfl)
    refine if_yes (by kernel_rfl) ?_
    simp [go_sem, h27, eb1, eb2, eb3, eb4, eb5, ep1, ep2]
    exact hK.out _ _ (Below.refl _ _) rfl
  have h4 : f 4 = .string (XA ++ XB ++ XC ++ XD ++ XZ ++ XE) := hf 4 (by kernel_rfl)
  simp only [putSl, Act.put, List.setIfInBounds_toArray, List.set_cons_zero, List.set_cons_succ, h4]
  go_wp2
  go_ret
  exact ⟨by rw [HR.out]; rfl, below_tr HB.out hR⟩
end Go.Proofs.YtgdflobcbhnimaaGreat
namespace Go.Proofs.YtgdflobcbhnimaaGreat
open Go.RowKit
set_option linter.unusedVariables false
set_option linter.unusedSimpArgs false
set_option maxRecDepth 100000
end Go.Proofs.YtgdflobcbhnimaaGreat
namespace Go.Proofs.YtgdflobcbhnimaaGreat
open Go.RowKit
set_option linter.unusedVariables false
set_option linter.unusedSimpArgs false
set_option maxRecDepth 100000
theorem blk_set {w : World} {b : Nat} {cs : Array Value} {t : Nat} (h : w.heap[b]? = some (.cells cs t (0, 0))) (k : Nat) (v : Value) : (w.setCell ⟨b, k, none⟩ v).heap[b]? = some (.cells (cs.setIfInBounds k v) t (0, 0)) := by
  obtain ⟨hlt, hk⟩ := Array.getElem?_eq_some_iff.1 h
  show (w.heap.modify b _)[b]? = _
  rw [Array.getElem?_eq_getElem (by rw [Array.size_modify]; exact hlt), Array.getElem_modify_self, hk]
  simp
theorem grown_setk (w : World) (b k : Nat) (v : Value) : w.grownBy (w.setCell ⟨b, k, none⟩ v) (some b) :=
  ⟨rfl, rfl, rfl, (KeepsWalks.setCell w _ v).size, fun j _ hk => Below.heap_setCell _ _ _ j (fun e => hk (by rw [e]))⟩
theorem grown_of {w w' : World} {row : Option Nat} (hb : Below w.heap.size w w') : w.grownBy w' row := ⟨hb.os, hb.tape, hb.output, hb.size, fun k hk _ => hb.block k hk⟩
theorem gb_trans {a b c : World} {row : Option Nat} (h : a.grownBy b row) (k : b.grownBy c row) : a.grownBy c row := ⟨k.os.trans h.os, k.tape.trans h.tape, k.output.trans h.output, Nat.le_trans h.size k.size, fun i hi hr => (k.block i (Nat.lt_of_lt_of_le hi h.size) hr).trans (h.block i hi hr)⟩
theorem gb_refl (a : World) (row : Option Nat) : a.grownBy a row := grown_of (Below.refl _ _)
/-- A symbol in a block. -/
def B5 (g : Sy) (b : Nat) (w : World) : Prop := w.heap[b]? = some (.cells #[.string ⟨g.name.toArray⟩, .int .u32 (g.value : Int), .int .u32 (g.size : Int), .int .i64 g.bind, .int .i64 g.part] 46 (0, 0))
theorem B5.lt {g : Sy} {b : Nat} {w : World} (h : B5 g b w) : b < w.heap.size := (Array.getElem?_eq_some_iff.1 h).1
theorem B5.cells {g : Sy} {b : Nat} {w : World} (h : B5 g b w) : w.cell? ⟨b, 0, none⟩ = some (.string ⟨g.name.toArray⟩) ∧ w.cell? ⟨b, 1, none⟩ = some (.int .u32 (g.value : Int)) ∧ w.cell? ⟨b, 2, none⟩ = some (.int .u32 (g.size : Int)) ∧ w.cell? ⟨b, 3, none⟩ = some (.int .i64 g.bind) ∧ w.cell? ⟨b, 4, none⟩ = some (.int .i64 g.part) := by
  have h' : w.heap[b]? = _ := h
  refine ⟨?_, ?_, ?_, ?_, ?_⟩ <;> simp [World.cell?, h']
theorem B5.frozen {g : Sy} {b : Nat} {w : World} (h : B5 g b w) (k : Nat) : w.frozen? ⟨b, k, none⟩ = false := by
  have h' : w.heap[b]? = _ := h
  simp [World.frozen?, h']
theorem B5.row {g : Sy} {b : Nat} {w w' : World} {row : Option Nat} (h : B5 g b w) (hg : w.grownBy w' row) (hr : some b ≠ row) : B5 g b w' := (hg.block b h.lt hr).trans h
theorem B5.keep {g : Sy} {b : Nat} {w w' : World} (h : B5 g b w) (hb : Below w.heap.size w w') : B5 g b w' := (hb.block b h.lt).trans h
theorem B5.new (g : Sy) (w : World) : B5 g w.heap.size (w.alloc (.cells #[.string ⟨g.name.toArray⟩, .int .u32 (g.value : Int), .int .u32 (g.size : Int), .int .i64 g.bind, .int .i64 g.part] 46)) := World.alloc_heap_new w _
theorem below_drN {B : Nat} {w w1 : World} (h : Below B w w1) (n : Nat) : Below B w (w1.drewN n) := h.trans ⟨rfl, rfl, rfl, Nat.le_refl _, fun _ _ => rfl⟩
end Go.Proofs.YtgdflobcbhnimaaGreat
