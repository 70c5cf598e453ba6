/- What is proved here: the document's own helpers: a digit, what stands behind ': ', the bytes of a .word, bytes as digits. -/
import Derived.Test.YtglkkeelocdanaaGreatDoorOb
import Derived.Test.YtglkkeelocdanaaGreatDoorNt
import Derived.LoopTactic
import Derived.LoopN
import Derived.Test.YtglkkeelocdanaaGreatDoorNv
namespace Go.Proofs.YtglkkeelocdanaaGreatDoor
open Go.RowKit
set_option linter.unusedVariables false
set_option linter.unusedSimpArgs false
set_option maxRecDepth 100000
/-- A hex digit's number, or -1. -/
def hvI (c : UInt8) : Int := match hvO c with
  | some d => (d : Int)
  | none => -1
theorem hvI_dig (c : UInt8) (h1 : 48 ≤ c.toNat) (h2 : c.toNat ≤ 57) : hvI c = (c.toNat : Int) - 48 := by
  unfold hvI hvO; rw [if_pos ⟨h1, h2⟩]; simp only []; omega
theorem hvI_low (c : UInt8) (h1 : 97 ≤ c.toNat) (h2 : c.toNat ≤ 102) : hvI c = (c.toNat : Int) - 97 + 10 := by
  unfold hvI hvO; rw [if_neg (by omega), if_pos ⟨h1, h2⟩]; simp only []; omega
theorem hvI_none (c : UInt8) (h1 : ¬ (48 ≤ c.toNat ∧ c.toNat ≤ 57)) (h2 : ¬ (97 ≤ c.toNat ∧ c.toNat ≤ 102)) : hvI c = -1 := by
  unfold hvI hvO; rw [if_neg h1, if_neg h2]
set_option maxHeartbeats 1000000 in
theorem digit66 (c : UInt8) (w : World) : Calls Tryz.prog 66 #[.int .u8 (c.toNat : Int)] w fun e w' => e = .returned (.int .i64 (hvI c)) ∧ w' = w := by
  obtain ⟨V, hV⟩ : ∃ z, z = hvI c := ⟨_, rfl⟩
  have hcl := UInt8.toNat_lt c
  by_cases a1 : 48 ≤ c.toNat
  · by_cases a2 : c.toNat ≤ 57
    · have HV : Hid (V = (c.toNat : Int) - 48) := by show _ = _; rw [hV]; exact hvI_dig c a1 a2
      rw [← hV]
      have g1 : (48 : Int) ≤ (c.toNat : Int) := by omega
      have g2 : (c.toNat : Int) ≤ 57 := by omega
      have hm : ((c.toNat : Int) - 48) % 256 = (c.toNat : Int) - 48 := by omega
      clear hV
      generalize c.toNat = n at *
      go_enter Tryz.func66, Tryz.ntmps66
      go_wp2
      go_ret
      exact ⟨by rw [HV.out]; rfl, rfl⟩
    · by_cases b1 : 97 ≤ c.toNat
      · by_cases b2 : c.toNat ≤ 102
        · have HV : Hid (V = (c.toNat : Int) - 97 + 10) := by show _ = _; rw [hV]; exact hvI_low c b1 b2
          rw [← hV]
          have g1 : (48 : Int) ≤ (c.toNat : Int) := by omega
          have g2 : decide ((c.toNat : Int) ≤ 57) = false := decide_eq_false (by omega)
          have g2' : (c.toNat ≤ 57) = False := eq_false (by omega)
          have g3 : (97 : Int) ≤ (c.toNat : Int) := by omega
          have g4 : (c.toNat : Int) ≤ 102 := by omega
          have hm : ((c.toNat : Int) - 97) % 256 = (c.toNat : Int) - 97 := by omega
          clear hV a2
          generalize c.toNat = n at *
          go_enter Tryz.func66, Tryz.ntmps66
          go_wp2
          go_ret
          exact ⟨by rw [HV.out]; rfl, rfl⟩
        · have HV : Hid (V = -1) := by show _ = _; rw [hV]; exact hvI_none c (by omega) (by omega)
          rw [← hV]
          have g1 : (48 : Int) ≤ (c.toNat : Int) := by omega
          have g2 : decide ((c.toNat : Int) ≤ 57) = false := decide_eq_false (by omega)
          have g2' : (c.toNat ≤ 57) = False := eq_false (by omega)
          have g3 : (97 : Int) ≤ (c.toNat : Int) := by omega
          have g4 : decide ((c.toNat : Int) ≤ 102) = false := decide_eq_false (by omega)
          have g4' : (c.toNat ≤ 102) = False := eq_false (by omega)
          clear hV a2 b2
          generalize c.toNat = n at *
          go_enter Tryz.func66, Tryz.ntmps66
          go_wp2
          go_ret
          exact ⟨by rw [HV.out]; rfl, rfl⟩
      · have HV : Hid (V = -1) := by show _ = _; rw [hV]; exact hvI_none c (by omega) (by omega)
        rw [← hV]
        have g1 : (48 : Int) ≤ (c.toNat : Int) := by omega
        have g2 : decide ((c.toNat : Int) ≤ 57) = false := decide_eq_false (by omega)
        have g2' : (c.toNat ≤ 57) = False := eq_false (by omega)
        have g3 : decide ((97 : Int) ≤ (c.toNat : Int)) = false := decide_eq_false (by omega)
        have g3' : (97 ≤ c.toNat) = False := eq_false (by omega)
        clear hV a2 b1
        generalize c.toNat = n at *
        go_enter Tryz.func66, Tryz.ntmps66
        go_wp2
        go_ret
        exact ⟨by rw [HV.out]; rfl, rfl⟩
  · have HV : Hid (V = -1) := by show _ = _; rw [hV]; exact hvI_none c (by omega) (by omega)
    rw [← hV]
    have g1 : decide ((48 : Int) ≤ (c.toNat : Int)) = false := decide_eq_false (by omega)
    have g1' : (48 ≤ c.toNat) = False := eq_false (by omega)
    have g3 : decide ((97 : Int) ≤ (c.toNat : Int)) = false := decide_eq_false (by omega)
    have g3' : (97 ≤ c.toNat) = False := eq_false (by omega)
    clear hV a1
    generalize c.toNat = n at *
    go_enter Tryz.func66, Tryz.ntmps66
    go_wp2
    go_ret
    exact ⟨by rw [HV.out]; rfl, rfl⟩
theorem occ_is (l : L8) (k : Nat) (h : k + 1 < l.length) : Lib.occAt l [58, 32] k = (l[k] == 58 && l[k + 1] == 32) := by
  unfold Lib.occAt
  rw [List.drop_eq_getElem_cons (by omega), List.drop_eq_getElem_cons (by omega)]
  simp only [List.isPrefixOf_cons_cons, List.isPrefixOf_nil_left, Bool.and_true]
  rw [Bool.eq_iff_iff]
  simp only [Bool.and_eq_true, beq_iff_eq]
  constructor
  · rintro ⟨h1, h2⟩; exact ⟨h1.symm, h2.symm⟩
  · rintro ⟨h1, h2⟩; exact ⟨h1.symm, h2.symm⟩
theorem cut_at2 (l : L8) (k : Nat) (hk : k + 1 < l.length) (ho : Lib.occAt l [58, 32] k = true) (hj : ∀ j, j < k → Lib.occAt l [58, 32] j = false) : cutL l = l.drop (k + 2) := by
  have hi := Lib.index_first (show k ≤ l.length by omega) ho hj
  have e : Lib.cut l [58, 32] = (l.take k, l.drop (k + 2), true) := by unfold Lib.cut; rw [hi, if_pos (by omega), Int.toNat_natCast]; rfl
  unfold cutL
  rw [e]
  rfl
theorem cut_none (l : L8) (hj : ∀ j, j + 1 < l.length → Lib.occAt l [58, 32] j = false) : cutL l = l := by
  have hi : Lib.index l [58, 32] = -1 := Lib.index_none (fun j hjl => by
    by_cases h : j + 1 < l.length
    · exact hj j h
    · cases ho : Lib.occAt l [58, 32] j with
      | false => rfl
      | true =>
        rcases Lib.occAt_room ho with h1 | h1
        · simp at h1; omega
        · cases h1)
  have e : Lib.cut l [58, 32] = (l, [], false) := by unfold Lib.cut; rw [hi, if_neg (by decide)]
  unfold cutL
  rw [e]
  rfl
set_option maxHeartbeats 1000000 in
theorem cut30 (l : L8) (hn : l.length ≤ 100000) (w : World) : Calls Tryz.prog 30 #[.string ⟨l.toArray⟩] w fun e w' => e = .returned (.string ⟨(cutL l).toArray⟩) ∧ w' = w := by
  obtain ⟨S, hS⟩ : ∃ S : ByteArray, S = ⟨l.toArray⟩ := ⟨_, rfl⟩
  have hSl : S.toList = l := by rw [hS]; exact bal l
  have hsz : S.size = l.length := by rw [← hSl, bt_len]
  have HSL : Hid (S.toList = l ∧ S.size = l.length ∧ S = ⟨l.toArray⟩) := ⟨hSl, hsz, hS⟩
  obtain ⟨CL, hCL⟩ : ∃ z : ByteArray, z = ⟨(cutL l).toArray⟩ := ⟨_, rfl⟩
  have HCL : Hid (CL = ⟨(cutL l).toArray⟩) := hCL
  have hSm : S.size ≤ 100000 := by omega
  rw [← hS, ← hCL]
  clear hS hSl hsz hCL hn
  go_enter Tryz.func30, Tryz.ntmps30
  go_wp2
  go_loopw [3] (fun x wr => ∃ k : Nat, x = .int .i64 (k : Int) ∧ k ≤ S.size ∧ wr = w ∧ ∀ j, j < k → Lib.occAt l [58, 32] j = false) (fun x _ => S.size - (intOf x).toNat)
  case atStart => exact ⟨0, rfl, Nat.zero_le _, rfl, fun j h => absurd h (Nat.not_lt_zero _)⟩
  case round =>
    obtain ⟨k, rfl, hk, rfl, hall⟩ := hrel
    have HA : Hid (∀ j, j < k → Lib.occAt l [58, 32] j = false) := hall
    clear hall
    by_cases hlt : k + 1 < S.size
    · have h1 : k < S.toList.length := by rw [bt_len]; omega
      have h2 : k + 1 < S.toList.length := by rw [bt_len]; omega
      have hkl : k < S.size := by omega
      obtain ⟨a, ha⟩ : ∃ a, a = S.toList[k] := ⟨_, rfl⟩
      obtain ⟨b, hb⟩ : ∃ b, b = S.toList[k + 1] := ⟨_, rfl⟩
      have ia : S[k] = a := by rw [ha]; exact bt_get S k hkl h1
      have ib : S[k + 1] = b := by rw [hb]; exact bt_get S (k + 1) hlt h2
      have HO : Hid (Lib.occAt l [58, 32] k = (a == 58 && b == 32)) := by
        show _ = _
        rw [occ_is l k (by have := HSL.out.2.1; omega), ha, hb]
        simp only [HSL.out.1]
      obtain ⟨an, han⟩ : ∃ z : Nat, z = a.toNat := ⟨_, rfl⟩
      obtain ⟨bn, hbn⟩ : ∃ z : Nat, z = b.toNat := ⟨_, rfl⟩
      have ia2 : S[k].toNat = an := by rw [ia, han]
      have ib2 : S[k + 1].toNat = bn := by rw [ib, hbn]
      have HAN : Hid (an = a.toNat ∧ bn = b.toNat) := ⟨han, hbn⟩
      have hik : (k : Int) + 1 < (S.size : Int) := by omega
      clear ia ib ha hb h1 h2 han hbn
      by_cases e1 : an = 58
      · by_cases e2 : bn = 32
        · have q1 : ((an : Int) == 58) = true := by simp; omega
          have q2 : ((bn : Int) == 32) = true := by simp; omega
          have hsl : S.extract (k + 2) S.size = CL := by
            rw [ext_list, HCL.out, HSL.out.1, HSL.out.2.1, List.take_length]
            rw [cut_at2 l k (by have := HSL.out.2.1; omega) ?_ HA.out]
            rw [HO.out]
            have x1 : a = 58 := UInt8.toNat_inj.1 (by rw [← HAN.out.1, e1]; rfl)
            have x2 : b = 32 := UInt8.toNat_inj.1 (by rw [← HAN.out.2, e2]; rfl)
            rw [x1, x2]; rfl
          subst e1 e2
          go_wp2
          first | go_ret | skip
          exact ⟨by rw [← hsl]; rfl, rfl⟩
        · have q1 : ((an : Int) == 58) = true := by simp; omega
          have q2 : ((bn : Int) == 32) = false := by simp; omega
          have HN : Hid (Lib.occAt l [58, 32] k = false) := by
            show _ = _
            rw [HO.out]
            have : (b == 32) = false := by simp; intro e; exact e2 (by rw [HAN.out.2, e]; rfl)
            rw [this, Bool.and_false]
          subst e1
          clear e2
          go_wp2
          go_roundw
          case rel => exact ⟨k + 1, by simp, by omega, by first | rfl | trivial, fun j hj => by
            by_cases h : j = k
            · rw [h]; exact HN.out
            · exact HA.out j (by omega)⟩
          case measure => simp [intOf]; omega
      · have q1 : ((an : Int) == 58) = false := by simp; omega
        have HN : Hid (Lib.occAt l [58, 32] k = false) := by
          show _ = _
          rw [HO.out]
          have : (a == 58) = false := by simp; intro e; exact e1 (by rw [HAN.out.1, e]; rfl)
          rw [this, Bool.false_and]
        clear e1
        go_wp2
        go_roundw
        case rel => exact ⟨k + 1, by simp, by omega, by first | rfl | trivial, fun j hj => by
          by_cases h : j = k
          · rw [h]; exact HN.out
          · exact HA.out j (by omega)⟩
        case measure => simp [intOf]; omega
    · have hik : ¬ (k : Int) + 1 < (S.size : Int) := by omega
      have hik2 : decide ((k : Int) + 1 < (S.size : Int)) = false := decide_eq_false hik
      have HE : Hid (S = CL) := by
        show _ = _
        rw [HCL.out, HSL.out.2.2, cut_none l (fun j hj => HA.out j (by have := HSL.out.2.1; omega))]
      clear hlt
      go_wp2
      first | go_ret | skip
      exact ⟨by rw [HE.out]; rfl, rfl⟩
end Go.Proofs.YtglkkeelocdanaaGreatDoor
namespace Go.Proofs.YtglkkeelocdanaaGreatDoor
open Go.RowKit
set_option linter.unusedVariables false
set_option linter.unusedSimpArgs false
set_option maxRecDepth 100000
set_option maxHeartbeats 1000000 in
theorem hex37 (S : ByteArray) (hS : S.size ≤ 100000) (w : World) : Calls Tryz.prog 37 #[.string S] w fun e w' => e = .returned (.string ⟨(hexL S.toList).toArray⟩) ∧ Below w.heap.size w w' := by
  obtain ⟨i0, hi0, hz0, hz1, hz2⟩ := info_parts info5
  have HI : Hid (Tryz.prog.info? 5 = some i0 ∧ i0.zero = some (.int .u8 0) ∧ i0.size = 1 ∧ i0.bytes = 1) := ⟨hi0, hz0, hz1, hz2⟩
  obtain ⟨l, hl⟩ : ∃ z, z = S.toList := ⟨_, rfl⟩
  have HL : Hid (l = S.toList ∧ l.length = S.size) := ⟨hl, by rw [hl]; exact bt_len S⟩
  rw [← hl]
  obtain ⟨XL, hXL⟩ : ∃ z, z = hexL l := ⟨_, rfl⟩
  rw [← hXL]
  have HXL : Hid (XL = hexL l) := hXL
  clear hl hi0 hz0 hz1 hz2 hXL
  go_enter Tryz.func37, Tryz.ntmps37
  go_wp2
  go_loopw [4, 5] (fun x y wr => ∃ k : Nat, y = .int .i64 (k : Int) ∧ k ≤ S.size ∧ wr.ownsRow w.heap.size 5 1 x (2 * k) (cellsB (hexL (l.take k))) ∧ Below w.heap.size w wr) (fun _ y _ => S.size - (intOf y).toNat)
  case atStart => exact ⟨0, rfl, Nat.zero_le _, World.ownsRow_nil _ _ _ _, Below.refl _ _⟩
  case round =>
    obtain ⟨k, rfl, hk, how, hb⟩ := hrel
    obtain ⟨sa, sc, rfl⟩ := own_shape1 how
    have HO : Hid _ := how
    have HB : Hid (Below w.heap.size w wr) := hb
    have hll := HL.out.2
    clear how hb
    by_cases hlt : k < S.size
    · have hkl : k < l.length := by omega
      obtain ⟨c, hc⟩ : ∃ c, c = l[k] := ⟨_, rfl⟩
      have hix : S[k] = c := by
        have h := bt_get S k hlt (by rw [← HL.out.1]; exact hkl)
        rw [h, hc]
        simp only [HL.out.1]
      obtain ⟨cn, hcn⟩ : ∃ z : Nat, z = c.toNat := ⟨_, rfl⟩
      have hcl : cn < 256 := by rw [hcn]; exact UInt8.toNat_lt c
      have hix2 : S[k].toNat = cn := by rw [hix, hcn]
      have hik : (k : Int) < (S.size : Int) := by omega
      obtain ⟨hi, hhi⟩ : ∃ z : Nat, z = cn / 16 := ⟨_, rfl⟩
      obtain ⟨lo, hlo⟩ : ∃ z : Nat, z = cn % 16 := ⟨_, rfl⟩
      have hsh : (cn : Int) / 16 = (hi : Int) := by omega
      have hsh2 : IntKind.u8.wrap (hi : Int) = (hi : Int) := by rw [IntKind.wrap_u8]; omega
      have hand : (cn : Int) % 16 = (lo : Int) := by omega
      have hand2 : (cn : Int).tmod 16 = (lo : Int) := by rw [Int.tmod_eq_emod_of_nonneg (by omega)]; omega
      obtain ⟨ha, hha⟩ : ∃ z : Nat, z = (hxD hi).toNat := ⟨_, rfl⟩
      obtain ⟨hb, hhb⟩ : ∃ z : Nat, z = (hxD lo).toNat := ⟨_, rfl⟩
      have hxa := hex_ix hi (by omega)
      have hxb := hex_ix lo (by omega)
      rw [← hha] at hxa
      rw [← hhb] at hxb
      have HSN : Hid (cellsB (hexL (l.take (k + 1))) = cellsB (hexL (l.take k)) ++ [.int .u8 (ha : Int), .int .u8 (hb : Int)]) := by
        show _ = _
        rw [List.take_succ_eq_append_getElem hkl, ← hc, hex_snoc, ← hcn, ← hhi, ← hlo]
        unfold cellsB
        rw [List.map_append, hha, hhb]
        rfl
      clear hix hc hcn hhi hlo hha hhb
      go_wp2
      refine wp_region_cut (R := Ext) [⟨12, fun v _ => v = .slice sa (2 * k) sc, fun _ _ _ _ h => h⟩, ⟨13, fun v _ => v = .string ⟨#[48, 49, 50, 51, 52, 53, 54, 55, 56, 57, 97, 98, 99, 100, 101, 102]⟩, fun _ _ _ _ h => h⟩, ⟨14, fun v _ => v = .string S, fun _ _ _ _ h => h⟩, ⟨15, fun v _ => v = .int .i64 (k : Int), fun _ _ _ _ h => h⟩, ⟨16, fun v _ => v = .int .u8 (cn : Int), fun _ _ _ _ h => h⟩, ⟨17, fun v _ => v = .int .u8 (hi : Int), fun _ _ _ _ h => h⟩, ⟨18, fun v _ => v = .int .u8 (ha : Int), fun _ _ _ _ h => h⟩, ⟨19, fun v _ => v = .string ⟨#[48, 49, 50, 51, 52, 53, 54, 55, 56, 57, 97, 98, 99, 100, 101, 102]⟩, fun _ _ _ _ h => h⟩, ⟨20, fun v _ => v = .string S, fun _ _ _ _ h => h⟩, ⟨21, fun v _ => v = .int .i64 (k : Int), fun _ _ _ _ h => h⟩, ⟨22, fun v _ => v = .int .u8 (cn : Int), fun _ _ _ _ h => h⟩, ⟨23, fun v _ => v = .int .u8 (lo : Int), fun _ _ _ _ h => h⟩, ⟨24, fun v _ => v = .int .u8 (hb : Int), fun _ _ _ _ h => h⟩, ⟨25, fun v W => ∃ g, v = .slice (some ⟨g, 0, none⟩) 2 2 ∧ W.heap[g]? = some (.cells #[.int .u8 (ha : Int), .int .u8 (hb : Int)] 5 (0, 0)), fun v A C hb h => by obtain ⟨g, h1, h2⟩ := h; exact ⟨g, h1, (hb.block _ (Array.getElem?_eq_some_iff.1 h2).1).trans h2⟩⟩] _ 14 (by kernel_rfl) rfl (by kernel_rfl) (by decide) (by kernel_rfl) (Below.drew (Below.refl _ _)) (fun _ _ _ h1 h2 => below_tr h1 h2) (fun QQ => ⟨?_, ?_, ?_, ?_, ?_, ?_, ?_, ?_, ?_, ?_, ?_, ?_, ?_, ?_, trivial⟩) (fun f wy hR hf A hA => ?_)
      · intro A wx hR hout hdep K hK
        have h4 : A.tmps[4]?.getD undef = .slice sa (2 * k) sc := hout 4 (by kernel_rfl)
        refine if_yes (by kernel_rfl) ?_
        simp [go_sem, h4, hix2, hik, hsh, hsh2, hand, hand2, hxa, hxb]
        exact hK.out _ _ (Below.refl _ _) rfl
      · intro A wx hR hout hdep K hK
        have h3 : A.tmps[3]?.getD undef = .string ⟨#[48, 49, 50, 51, 52, 53, 54, 55, 56, 57, 97, 98, 99, 100, 101, 102]⟩ := hout 3 (by kernel_rfl)
        refine if_yes (by kernel_rfl) ?_
        simp [go_sem, h3, hix2, hik, hsh, hsh2, hand, hand2, hxa, hxb]
        exact hK.out _ _ (Below.refl _ _) rfl
      · intro A wx hR hout hdep K hK
        have h0 : A.tmps[0]?.getD undef = .string S := hout 0 (by kernel_rfl)
        refine if_yes (by kernel_rfl) ?_
        simp [go_sem, h0, hix2, hik, hsh, hsh2, hand, hand2, hxa, hxb]
        exact hK.out _ _ (Below.refl _ _) rfl
      · intro A wx hR hout hdep K hK
        have h5 : A.tmps[5]?.getD undef = .int .i64 (k : Int) := hout 5 (by kernel_rfl)
        refine if_yes (by kernel_rfl) ?_
        simp [go_sem, h5, hix2, hik, hsh, hsh2, hand, hand2, hxa, hxb]
        exact hK.out _ _ (Below.refl _ _) rfl
      · intro A wx hR hout hdep K hK
        have h14 : A.tmps[14]?.getD undef = .string S := hdep 14 (by kernel_rfl)
        have h15 : A.tmps[15]?.getD undef = .int .i64 (k : Int) := hdep 15 (by kernel_rfl)
        refine if_yes (by kernel_rfl) ?_
        simp [go_sem, h14, h15, hix2, hik, hsh, hsh2, hand, hand2, hxa, hxb]
        exact hK.out _ _ (Below.refl _ _) rfl
      · intro A wx hR hout hdep K hK
        have h16 : A.tmps[16]?.getD undef = .int .u8 (cn : Int) := hdep 16 (by kernel_rfl)
        refine if_yes (by kernel_rfl) ?_
        simp [go_sem, h16, hix2, hik, hsh, hsh2, hand, hand2, hxa, hxb]
        exact hK.out _ _ (Below.refl _ _) rfl
      · intro A wx hR hout hdep K hK
        have h13 : A.tmps[13]?.getD undef = .string ⟨#[48, 49, 50, 51, 52, 53, 54, 55, 56, 57, 97, 98, 99, 100, 101, 102]⟩ := hdep 13 (by kernel_rfl)
        have h17 : A.tmps[17]?.getD undef = .int .u8 (hi : Int) := hdep 17 (by kernel_rfl)
        refine if_yes (by kernel_rfl) ?_
        simp [go_sem, h13, h17, hix2, hik, hsh, hsh2, hand, hand2, hxa, hxb]
        exact hK.out _ _ (Below.refl _ _) rfl
      · intro A wx hR hout hdep K hK
        have h3 : A.tmps[3]?.getD undef = .string ⟨#[48, 49, 50, 51, 52, 53, 54, 55, 56, 57, 97, 98, 99, 100, 101, 102]⟩ := hout 3 (by kernel_rfl)
        refine if_yes (by kernel_rfl) ?_
        simp [go_sem, h3, hix2, hik, hsh, hsh2, hand, hand2, hxa, hxb]
        exact hK.out _ _ (Below.refl _ _) rfl
      · intro A wx hR hout hdep K hK
        have h0 : A.tmps[0]?.getD undef = .string S := hout 0 (by kernel_rfl)
        refine if_yes (by kernel_rfl) ?_
        simp [go_sem, h0, hix2, hik, hsh, hsh2, hand, hand2, hxa, hxb]
        exact hK.out _ _ (Below.refl _ _) rfl
      · intro A wx hR hout hdep K hK
        have h5 : A.tmps[5]?.getD undef = .int .i64 (k : Int) := hout 5 (by kernel_rfl)
        refine if_yes (by kernel_rfl) ?_
        simp [go_sem, h5, hix2, hik, hsh, hsh2, hand, hand2, hxa, hxb]
        exact hK.out _ _ (Below.refl _ _) rfl
      · intro A wx hR hout hdep K hK
        have h20 : A.tmps[20]?.getD undef = .string S := hdep 20 (by kernel_rfl)
        have h21 : A.tmps[21]?.getD undef = .int .i64 (k : Int) := hdep 21 (by kernel_rfl)
        refine if_yes (by kernel_rfl) ?_
        simp [go_sem, h20, h21, hix2, hik, hsh, hsh2, hand, hand2, hxa, hxb]
        exact hK.out _ _ (Below.refl _ _) rfl
      · intro A wx hR hout hdep K hK
        have h22 : A.tmps[22]?.getD undef = .int .u8 (cn : Int) := hdep 22 (by kernel_rfl)
        refine if_yes (by kernel_rfl) ?_
        simp [go_sem, h22, hix2, hik, hsh, hsh2, hand, hand2, hxa, hxb]
        exact hK.out _ _ (Below.refl _ _) rfl
      · intro A wx hR hout hdep K hK
        have h19 : A.tmps[19]?.getD undef = .string ⟨#[48, 49, 50, 51, 52, 53, 54, 55, 56, 57, 97, 98, 99, 100, 101, 102]⟩ := hdep 19 (by kernel_rfl)
        have h23 : A.tmps[23]?.getD undef = .int .u8 (lo : Int) := hdep 23 (by kernel_rfl)
        refine if_yes (by kernel_rfl) ?_
        simp [go_sem, h19, h23, hix2, hik, hsh, hsh2, hand, hand2, hxa, hxb]
        exact hK.out _ _ (Below.refl _ _) rfl
      · intro A wx hR hout hdep K hK
        have h18 : A.tmps[18]?.getD undef = .int .u8 (ha : Int) := hdep 18 (by kernel_rfl)
        have h24 : A.tmps[24]?.getD undef = .int .u8 (hb : Int) := hdep 24 (by kernel_rfl)
        refine if_yes (by kernel_rfl) ?_
        simp [go_sem, h18, h24, hix2, hik, hsh, hsh2, hand, hand2, hxa, hxb]
        exact hK.out _ _ ((Below.refl _ _).alloc (Nat.le_refl _) _) ⟨_, rfl, World.alloc_heap_new wx _⟩
      obtain ⟨g, hv25, hg25⟩ : ∃ g, f 25 = .slice (some ⟨g, 0, none⟩) 2 2 ∧ wy.heap[g]? = some (.cells #[.int .u8 (ha : Int), .int .u8 (hb : Int)] 5 (0, 0)) := hf 25 (by kernel_rfl)
      have hv12 : f 12 = .slice sa (2 * k) sc := hf 12 (by kernel_rfl)
      simp only [putSl, List.take_succ_cons, List.take_zero, Act.put, List.setIfInBounds_toArray, List.set_cons_zero, List.set_cons_succ, hv25, hv12] at hA
      subst hA
      have how := own_keep1 HO.out hR
      have HBY : Hid (Below w.heap.size w wy) := below_tr HB.out hR
      refine wpAny_ready (rs := [14]) (by kernel_rfl) (by decide) (AllReady.cons rfl ?_ AllReady.nil)
      intro K5 hK5
      refine if_yes (by kernel_rfl) ?_
      refine wp_append_own wy (.tmp 12) (.tmp 25) 55 rfl w.heap.size 5 i0 _ 1 1 Tryz.underlying55 HI.out.1 HI.out.2.1 HI.out.2.2.1 HI.out.2.2.2 rfl (by decide) _ _ _ rfl how ⟨g, 0, none⟩ 2 2 [.int .u8 (ha : Int), .int .u8 (hb : Int)] rfl rfl (cells2 w wy _ _ _ g hg25) (by intro u hu; simp at hu; rcases hu with rfl | rfl <;> rfl) (by unfold maxLen; omega) (by omega) HBY.out.size ?_
      intro sv w2 how2 hgr2 _
      refine hK5 _ _ ?_
      simp only [Act.put, List.setIfInBounds_toArray, List.set_cons_zero, List.set_cons_succ]
      refine wpAny_ready (rs := [15]) (by kernel_rfl) (by decide) (AllReady.cons rfl ?_ AllReady.nil)
      intro K6 hK6
      refine if_yes (by kernel_rfl) ?_
      simp [go_sem]
      refine hK6 _ _ ?_
      refine wpAny_done (by kernel_rfl) ?_ _
      obtain ⟨sa2, sc2, rfl⟩ := own_shape1 how2
      have HF : Hid (w2.ownsRow w.heap.size 5 1 (.slice sa2 (2 * k + 2) sc2) (2 * k + 2) (cellsB (hexL (l.take (k + 1)))) ∧ Below w.heap.size w w2) := by
        refine ⟨by rw [HSN.out]; exact how2, HBY.out.grown hgr2 HBY.out.size (fun r e => own_ge1 HO.out r e)⟩
      clear how how2 hgr2 hg25 hf hv25 hv12 hR
      go_wp2
      go_roundw
      case rel => exact ⟨k + 1, by simp, by omega, by rw [show 2 * (k + 1) = 2 * k + 2 by omega]; exact HF.out.1, HF.out.2⟩
      case measure => simp [intOf]; omega
    · have hke : k = S.size := by omega
      have hik : ¬ (k : Int) < (S.size : Int) := by omega
      have hik2 : decide ((k : Int) < (S.size : Int)) = false := decide_eq_false hik
      have hcv : (convert 55 9 (.slice sa (2 * k) sc)).run Tryz.prog wr = .ok (.string ⟨(hexL l).toArray⟩) wr := by
        have h := HO.out
        rw [hke, ← hll, List.take_length, ← hex_len] at h
        have := own_text h
        rw [hke, ← hll, ← hex_len]
        exact this
      rw [← HXL.out] at hcv
      clear hke
      go_wp2
      first | go_ret | skip
      exact ⟨rfl, HB.out⟩
/-- What raw tells of a line. -/
def rwO (l : L8) : Option L8 := if dotW.isPrefixOf l then bytesR (l.drop 8) else none
theorem rw_long {l : L8} (h : l.length < 10 ∨ 16 < l.length ∨ l.length % 2 = 1) : rwO l = none := by
  unfold rwO
  split
  · unfold bytesR
    rw [if_neg]
    rw [List.length_drop]
    omega
  · rfl
theorem dot_take (l : L8) (h : 8 ≤ l.length) : dotW.isPrefixOf l = (l.take 8 == dotW) := by
  rw [Bool.eq_iff_iff, List.isPrefixOf_iff_prefix, List.prefix_iff_eq_take, beq_iff_eq]
  exact ⟨fun e => e.symm, fun e => e.symm⟩
end Go.Proofs.YtglkkeelocdanaaGreatDoor
namespace Go.Proofs.YtglkkeelocdanaaGreatDoor
open Go.RowKit
set_option linter.unusedVariables false
set_option linter.unusedSimpArgs false
set_option maxRecDepth 100000
set_option maxHeartbeats 1000000 in
theorem raw31 (l : L8) (hn : l.length ≤ 100000) (w : World) : Calls Tryz.prog 31 #[.string ⟨l.toArray⟩] w fun e w' => e = .returned (.tuple #[.string ⟨((rwO l).getD []).toArray⟩, .bool (rwO l).isSome]) ∧ Below w.heap.size w w' := by
  obtain ⟨S, hS⟩ : ∃ S : ByteArray, S = ⟨l.toArray⟩ := ⟨_, rfl⟩
  have hSl : S.toList = l := by rw [hS]; exact bal l
  have hsz : S.size = l.length := by rw [← hSl, bt_len]
  have HSL : Hid (S.toList = l ∧ S.size = l.length ∧ S = ⟨l.toArray⟩) := ⟨hSl, hsz, hS⟩
  have hSm : S.size ≤ 100000 := by omega
  obtain ⟨post, hpost⟩ : ∃ p : Ending → World → Prop, p = fun e w' => e = .returned (.tuple #[.string ⟨((rwO l).getD []).toArray⟩, .bool (rwO l).isSome]) ∧ Below w.heap.size w w' := ⟨_, rfl⟩
  rw [← hS, ← hpost]
  have HPN : Hid (∀ w', rwO l = none → Below w.heap.size w w' → post (.returned (.tuple #[.string ⟨#[]⟩, .bool false])) w') := fun w' h hb => by rw [hpost, h]; exact ⟨rfl, hb⟩
  have HPS : Hid (∀ b w', rwO l = some b → Below w.heap.size w w' → post (.returned (.tuple #[.string ⟨b.toArray⟩, .bool true])) w') := fun b w' h hb => by rw [hpost, h]; exact ⟨rfl, hb⟩
  clear hpost hS hSl hsz hn
  by_cases a1 : S.size < 10
  · have HN : Hid (rwO l = none) := rw_long (.inl (by have := HSL.out.2.1; omega))
    have g1 : (S.size : Int) < 10 := by omega
    go_enter Tryz.func31, Tryz.ntmps31
    go_wp2
    first | go_ret | skip
    exact HPN.out _ HN.out (Below.refl _ _)
  · have g1 : decide ((S.size : Int) < 10) = false := decide_eq_false (by omega)
    have g1' : ¬ (S.size : Int) < 10 := by omega
    obtain ⟨X, hX⟩ : ∃ z : ByteArray, z = S.extract 0 8 := ⟨_, rfl⟩
    have hXl : X.toList = l.take 8 := by rw [hX, ext_list, bal, HSL.out.1, List.drop_zero]
    rw [hX] at hXl
    clear hX
    by_cases a2 : dotW.isPrefixOf l = true
    · have hq : (S.extract 0 8).toList = [46, 119, 111, 114, 100, 32, 48, 120] := by
        rw [hXl]
        rw [dot_take l (by have := HSL.out.2.1; omega)] at a2
        exact beq_iff_eq.1 a2
      by_cases a3 : 16 < S.size
      · have HN : Hid (rwO l = none) := rw_long (.inr (.inl (by have := HSL.out.2.1; omega)))
        have g3 : (16 : Int) < (S.size : Int) := by omega
        clear hXl a2
        go_enter Tryz.func31, Tryz.ntmps31
        go_wp2
        first | go_ret | skip
        exact HPN.out _ HN.out (Below.refl _ _)
      · have g3 : decide ((16 : Int) < (S.size : Int)) = false := decide_eq_false (by omega)
        have g3' : (S.size : Int) ≤ 16 := by omega
        by_cases a4 : S.size % 2 = 1
        · have HN : Hid (rwO l = none) := rw_long (.inr (.inr (by have := HSL.out.2.1; omega)))
          have r1 : (S.size : Int).tmod 2 = 1 := by rw [Int.tmod_eq_emod_of_nonneg (by omega)]; omega
          have r2 : (S.size : Int) % 2 = 1 := by omega
          clear hXl a2 a4
          go_enter Tryz.func31, Tryz.ntmps31
          go_wp2
          first | go_ret | skip
          exact HPN.out _ HN.out (Below.refl _ _)
        · have r1 : (S.size : Int).tmod 2 = 0 := by rw [Int.tmod_eq_emod_of_nonneg (by omega)]; omega
          have r2 : (S.size : Int) % 2 = 0 := by omega
          have HB : Hid (rwO l = rawL (l.drop 8) ∧ S.size % 2 = 0 ∧ 10 ≤ S.size) := by
            refine ⟨?_, by omega, by omega⟩
            unfold rwO bytesR
            rw [if_pos a2, if_pos (by rw [List.length_drop]; have := HSL.out.2.1; omega)]
          have hS16 : S.size ≤ 16 := by omega
          clear hXl a2 a4 hSm
          go_enter Tryz.func31, Tryz.ntmps31
          go_wp2
          go_loopw [4, 5] (fun x y wr => ∃ (j k : Nat) (o : L8), y = .int .i64 (k : Int) ∧ x = .string ⟨o.toArray⟩ ∧ k = 8 + 2 * j ∧ k ≤ S.size ∧ o.length = j ∧ rawL (l.drop 8) = (rawL (l.drop k)).map (fun r => o ++ r) ∧ Below w.heap.size w wr) (fun _ y _ => S.size - (intOf y).toNat)
          case atStart => exact ⟨0, 8, [], rfl, rfl, rfl, by omega, rfl, by cases rawL (l.drop 8) <;> rfl, Below.refl _ _⟩
          case round =>
            obtain ⟨j, k, o, rfl, rfl, hkj, hk, hol, hraw, hb⟩ := hrel
            have HRW : Hid (rawL (l.drop 8) = (rawL (l.drop k)).map (fun r => o ++ r) ∧ k = 8 + 2 * j ∧ o.length = j) := ⟨hraw, hkj, hol⟩
            have HBW : Hid (Below w.heap.size w wr) := hb
            have hj8 : j ≤ 8 := by omega
            obtain ⟨O, hO⟩ : ∃ z : ByteArray, z = ⟨o.toArray⟩ := ⟨_, rfl⟩
            have hOs : O.size ≤ 8 := by rw [hO]; show Array.size _ ≤ _; simp; omega
            have HO : Hid (O = ⟨o.toArray⟩) := hO
            rw [← hO]
            clear hraw hb hq r1 r2 g1 g1' g3 g3' hO
            by_cases hlt : k < S.size
            · have hlt1 : k + 1 < S.size := by have := HB.out.2.1; omega
              clear hkj hol hj8
              have h1 : k < S.toList.length := by rw [bt_len]; omega
              have h2 : k + 1 < S.toList.length := by rw [bt_len]; omega
              obtain ⟨a, ha⟩ : ∃ a, a = S.toList[k] := ⟨_, rfl⟩
              obtain ⟨b, hb⟩ : ∃ b, b = S.toList[k + 1] := ⟨_, rfl⟩
              have ia : S[k] = a := by rw [ha]; exact bt_get S k hlt h1
              have ib : S[k + 1] = b := by rw [hb]; exact bt_get S (k + 1) hlt1 h2
              have HD : Hid (l.drop k = a :: b :: l.drop (k + 2)) := by
                show _ = _
                have e1 := drop_cons S.toList k h1
                have e2 := drop_cons S.toList (k + 1) h2
                rw [← ha, HSL.out.1] at e1
                rw [← hb, HSL.out.1] at e2
                rw [e1, e2]
              have hik : (k : Int) < (S.size : Int) := by omega
              have hik1 : (k : Int) + 1 < (S.size : Int) := by omega
              have KA := digit66 a
              have KB := digit66 b
              obtain ⟨an, han⟩ : ∃ z : Nat, z = a.toNat := ⟨_, rfl⟩
              obtain ⟨bn, hbn⟩ : ∃ z : Nat, z = b.toNat := ⟨_, rfl⟩
              have ia2 : S[k].toNat = an := by rw [ia, han]
              have ib2 : S[k + 1].toNat = bn := by rw [ib, hbn]
              rw [← han] at KA
              rw [← hbn] at KB
              have HKA : Hid (∀ w', Calls Tryz.prog 66 #[.int .u8 (an : Int)] w' fun e w'' => e = .returned (.int .i64 (hvI a)) ∧ w'' = w') := KA
              have HKB : Hid (∀ w', Calls Tryz.prog 66 #[.int .u8 (bn : Int)] w' fun e w'' => e = .returned (.int .i64 (hvI b)) ∧ w'' = w') := KB
              clear ia ib ha hb h1 h2 han hbn KA KB
              cases hva : hvO a with
              | none =>
                have HN : Hid (rwO l = none) := by show _ = _; rw [HB.out.1, HRW.out.1, HD.out, rawL, hva]; rfl
                have ea : hvI a = -1 := by unfold hvI; rw [hva]
                rw [ea] at HKA
                clear hva ea
                generalize hvI b = ib at HKB
                have K1 := HKA.out wr
                have K2 := HKB.out wr
                go_wp2_with fail
                refine K1.mono ?_
                rintro e w1 ⟨rfl, hw1⟩
                obtain rfl : wr = w1 := hw1.symm
                clear K1 hw1
                go_wp2_with fail
                refine K2.mono ?_
                rintro e w2 ⟨rfl, hw2⟩
                obtain rfl : wr = w2 := hw2.symm
                clear K2 hw2
                go_wp2
                first | go_ret | skip
                exact HPN.out _ HN.out HBW.out
              | some x =>
                have ea : hvI a = (x : Int) := by unfold hvI; rw [hva]
                rw [ea] at HKA
                have hxl := hvO_lt hva
                have ga : decide ((x : Int) < 0) = false := decide_eq_false (by omega)
                have ga' : ¬ (x : Int) < 0 := by omega
                cases hvb : hvO b with
                | none =>
                  have HN : Hid (rwO l = none) := by show _ = _; rw [HB.out.1, HRW.out.1, HD.out, rawL, hva]; simp only []; rw [hvb]; rfl
                  have eb : hvI b = -1 := by unfold hvI; rw [hvb]
                  rw [eb] at HKB
                  clear hva ea hvb eb
                  have K1 := HKA.out wr
                  have K2 := HKB.out wr
                  go_wp2_with fail
                  refine K1.mono ?_
                  rintro e w1 ⟨rfl, hw1⟩
                  obtain rfl : wr = w1 := hw1.symm
                  clear K1 hw1
                  go_wp2_with fail
                  refine K2.mono ?_
                  rintro e w2 ⟨rfl, hw2⟩
                  obtain rfl : wr = w2 := hw2.symm
                  clear K2 hw2
                  go_wp2
                  first | go_ret | skip
                  exact HPN.out _ HN.out HBW.out
                | some y =>
                  have eb : hvI b = (y : Int) := by unfold hvI; rw [hvb]
                  rw [eb] at HKB
                  have hyl := hvO_lt hvb
                  have gb : decide ((y : Int) < 0) = false := decide_eq_false (by omega)
                  have gb' : ¬ (y : Int) < 0 := by omega
                  obtain ⟨cc, hcc⟩ : ∃ z : Nat, z = 16 * x + y := ⟨_, rfl⟩
                  have hcl : cc < 256 := by omega
                  have HST : Hid (rawL (l.drop 8) = (rawL (l.drop (k + 2))).map (fun r => (o ++ [UInt8.ofNat cc]) ++ r)) := by
                    show _ = _
                    rw [HRW.out.1, HD.out, rawL, hva]
                    simp only []
                    rw [hvb]
                    simp only []
                    rw [← hcc]
                    cases rawL (l.drop (k + 2)) with
                    | none => rfl
                    | some r => simp
                  have m1 : (16 : Int) * (x : Int) + (y : Int) = (cc : Int) := by omega
                  have hcv := one55 wr cc hcl
                  obtain ⟨O2, hO2⟩ : ∃ z : ByteArray, z = O ++ ⟨#[UInt8.ofNat cc]⟩ := ⟨_, rfl⟩
                  have hadd : ∀ wx, (Op.stringOp .add O ⟨#[UInt8.ofNat cc]⟩).run Tryz.prog wx = .ok (.string O2) wx := fun wx => by
                    rw [hO2]
                    exact run_string_add_sum wx _ _ (by have : (⟨#[UInt8.ofNat cc]⟩ : ByteArray).size = 1 := rfl; omega)
                  have HO2 : Hid (O2 = ⟨(o ++ [UInt8.ofNat cc]).toArray⟩) := by show _ = _; rw [hO2, HO.out]; exact ba_app o [UInt8.ofNat cc]
                  have HB1 : Hid (Below w.heap.size w (wr.alloc (.cells #[.int .u8 (cc : Int)] 5))) := HBW.out.alloc HBW.out.size _
                  clear hva ea hvb eb hcc hO2 hxl hyl
                  have K1 := HKA.out wr
                  have K2 := HKB.out wr
                  go_wp2_with fail
                  refine K1.mono ?_
                  rintro e w1 ⟨rfl, hw1⟩
                  obtain rfl : wr = w1 := hw1.symm
                  clear K1 hw1
                  go_wp2_with fail
                  refine K2.mono ?_
                  rintro e w2 ⟨rfl, hw2⟩
                  obtain rfl : wr = w2 := hw2.symm
                  clear K2 hw2
                  go_wp2
                  go_roundw
                  case rel => exact ⟨j + 1, k + 2, o ++ [UInt8.ofNat cc], by first | rfl | simp, by rw [HO2.out], by have := HRW.out.2.1; omega, by omega, by have := HRW.out.2.2; simp; omega, HST.out, HB1.out⟩
                  case measure => simp [intOf]; omega
            · have hke : k = S.size := by omega
              have hik : ¬ (k : Int) < (S.size : Int) := by omega
              have hik2 : decide ((k : Int) < (S.size : Int)) = false := decide_eq_false hik
              have HE : Hid (rwO l = some o) := by
                show _ = _
                rw [HB.out.1, HRW.out.1, hke, HSL.out.2.1, List.drop_length, rawL]
                simp
              clear hke hkj hol hj8 hlt
              go_wp2
              first | go_ret | skip
              rw [HO.out]
              exact HPS.out o _ HE.out HBW.out
    · have HN : Hid (rwO l = none) := by show _ = _; unfold rwO; rw [if_neg a2]
      have hq : ((S.extract 0 8).toList = [46, 119, 111, 114, 100, 32, 48, 120]) = False := by
        rw [hXl]
        rw [dot_take l (by have := HSL.out.2.1; omega)] at a2
        exact eq_false (fun e => a2 (beq_iff_eq.2 e))
      clear hXl a2
      go_enter Tryz.func31, Tryz.ntmps31
      go_wp2
      first | go_ret | skip
      exact HPN.out _ HN.out (Below.refl _ _)
end Go.Proofs.YtglkkeelocdanaaGreatDoor
