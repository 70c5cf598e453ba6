/- What is proved here: a line's words are read, or it throws: the program's bytes and code; what was thrown is caught. -/
import Derived.Test.YtglkkeelocdanaaDoorOa
import Derived.Test.YtglkkeelocdanaaDoorNj
import Derived.Test.YtglkkeelocdanaaDoorNv
import Derived.LoopTactic
import Derived.LoopN
import Derived.Test.YtglkkeelocdanaaDoorEn
import Derived.Defers
import Derived.Recover
import Derived.Laws.Pointers
namespace Go.Proofs.YtglkkeelocdanaaDoor
open Go.RowKit
set_option linter.unusedVariables false
set_option linter.unusedSimpArgs false
set_option maxRecDepth 100000
def hexB : ByteArray := ⟨#[48, 49, 50, 51, 52, 53, 54, 55, 56, 57, 97, 98, 99, 100, 101, 102]⟩
theorem hexB_ix (c : UInt8) : Lib.indexByte hexB.toList c = match hvO c with
    | some d => (d : Int)
    | none => -1 := by
  have key : ∀ k : Fin 256, Lib.indexByte hexB.toList (UInt8.ofNat k.val) = match hvO (UInt8.ofNat k.val) with
    | some d => (d : Int)
    | none => -1 := by decide +kernel
  have := key ⟨c.toNat, UInt8.toNat_lt c⟩
  simpa using this
theorem or_nib (a b : Nat) (ha : a < 1152921504606846976) (hb : b < 16) : bits .or .u64 ((a * 16 : Nat) : Int) (b : Int) = ((a * 16 + b : Nat) : Int) := by
  rw [u64_or_nat _ _ (by omega) (by omega), nat_join 4 _ _ (by omega) (by omega)]
theorem nib_small (v k : Nat) (h : v < 16 ^ k) (hk : k < 8) : v < 268435456 := by
  have h1 : 16 ^ k ≤ 16 ^ 7 := Nat.pow_le_pow_right (by decide) (by omega)
  have h2 : 16 ^ 7 = 268435456 := by decide
  omega
set_option maxHeartbeats 1000000 in
theorem bytes65 (R : Nat) (l : L8) (hn : l.length ≤ 100000) (w : World) (hr : Rd R w l) :
    Calls Tryd.prog 27 #[.pointer (some ⟨R, 0, none⟩)] w fun e w' => match bytesR l with
      | some b => e = .returned (.string ⟨b.toArray⟩) ∧ Below w.heap.size w w'
      | none => e = .panicked thrown110 ∧ Below w.heap.size w w' := by
  obtain ⟨S, hS⟩ : ∃ S : ByteArray, S = ⟨l.toArray⟩ := ⟨_, rfl⟩
  have hSl : S.toList = l := by rw [hS]; exact bal l
  have hsz : S.size = l.length := by rw [← hSl, bt_len]
  have c0 : w.cell? ⟨R, 0, none⟩ = some (.string S) := by rw [hS]; exact hr.cell
  obtain ⟨post, hpost⟩ : ∃ p : Ending → World → Prop, p = fun e w' => match bytesR l with
      | some b => e = .returned (.string ⟨b.toArray⟩) ∧ Below w.heap.size w w'
      | none => e = .panicked thrown110 ∧ Below w.heap.size w w' := ⟨_, rfl⟩
  rw [← hpost]
  have HPS : Hid (∀ b w', bytesR l = some b → Below w.heap.size w w' → post (.returned (.string ⟨b.toArray⟩)) w') := fun b w' h hb => by rw [hpost]; simp only [h]; exact ⟨trivial, hb⟩
  have HPN : Hid (bytesR l = none → post (.panicked thrown110) w) := fun h => by rw [hpost]; simp only [h]; exact ⟨trivial, Below.refl _ _⟩
  obtain ⟨n, hnn⟩ : ∃ n : Nat, n = S.size / 2 := ⟨_, rfl⟩
  have hq : (S.size : Int).tdiv 2 = (n : Int) := by rw [Int.tdiv_eq_ediv_of_nonneg (by omega)]; omega
  have hq2 : (S.size : Int) / 2 = (n : Int) := by omega
  have HSL : Hid (S.toList = l ∧ S.size = l.length) := ⟨hSl, hsz⟩
  have hni : ∀ z : Nat, z ≤ 100000 → wrap64 (z : Int) = (z : Int) := fun z hz => by unfold wrap64; omega
  have w1 := hni n (by omega)
  have w2 : wrap64 (2 * (n : Int)) = ((2 * n : Nat) : Int) := by have := hni (2 * n) (by omega); rw [← this]; congr 1
  have M0 : Hid (Calls Tryd.prog 32 #[.bool false] w fun e w' => e = .panicked thrown110 ∧ w' = w) := must46_no w
  by_cases hlen : 2 ≤ l.length ∧ l.length ≤ 8 ∧ l.length % 2 = 0
  · have HN : Hid (2 ≤ l.length ∧ l.length ≤ 8 ∧ l.length % 2 = 0 ∧ 2 * n = S.size) := ⟨hlen.1, hlen.2.1, hlen.2.2, by omega⟩
    have HBR : Hid (bytesR l = rawL l) := by show _ = _; unfold bytesR; rw [if_pos hlen]
    have d1 : decide ((1 : Int) ≤ (n : Int)) = true := decide_eq_true (by omega)
    have d2 : decide ((n : Int) ≤ 4) = true := decide_eq_true (by omega)
    have d3 : ((S.size : Int) == 2 * (n : Int)) = true := by simp; omega
    have d4 : (S.size : Int) = 2 * (n : Int) := by omega
    have KI : Hid (∀ (c : UInt8), ∀ w', Calls Tryd.prog 50 #[.string ⟨#[48, 49, 50, 51, 52, 53, 54, 55, 56, 57, 97, 98, 99, 100, 101, 102]⟩, .int .u8 (c.toNat : Int)] w' fun e w'' => e = .returned (.int .i64 (match hvO c with | some d => (d : Int) | none => -1)) ∧ w'' = w') := fun c w' => by
      have := index78 hexB c.toNat w'
      rw [UInt8.ofNat_toNat, hexB_ix] at this
      exact this
    have M1 := must46_ok w
    have hS8 : S.size ≤ 8 := by omega
    have HR2 : Hid (l.length ≤ 8) := hlen.2.1
    clear hpost hr hS hSl hsz hnn hni hlen hn
    go_enter Tryd.func27, Tryd.ntmps27
    go_wp2_with fail
    refine M1.mono ?_
    rintro e w9 ⟨rfl, rfl⟩
    clear M1
    go_wp2
    go_loopw [4, 35] (fun x y wr => ∃ (k v : Nat), y = .int .i64 (k : Int) ∧ x = .int .u64 (v : Int) ∧ k ≤ S.size ∧ wr = w9 ∧ hexN 0 l = hexN v (l.drop k) ∧ v < 16 ^ k) (fun _ y _ => S.size - (intOf y).toNat)
    case atStart => exact ⟨0, 0, rfl, rfl, Nat.zero_le _, rfl, by rw [List.drop_zero], by decide⟩
    case round =>
      obtain ⟨k, v, rfl, rfl, hk, rfl, hh, hv⟩ := hrel
      have HH : Hid (hexN 0 l = hexN v (l.drop k) ∧ v < 16 ^ k) := ⟨hh, hv⟩
      clear hh
      by_cases hlt : k < S.size
      · have hvs := nib_small v k hv (by have h1 := HSL.out.2; have h2 := HR2.out; omega)
        have h1 : k < S.toList.length := by rw [bt_len]; exact hlt
        obtain ⟨c, hc⟩ : ∃ c, c = S.toList[k] := ⟨_, rfl⟩
        have ic : S[k] = c := by rw [hc]; exact bt_get S k hlt h1
        have HD : Hid (l.drop k = c :: l.drop (k + 1)) := by
          show _ = _
          have := drop_cons S.toList k h1
          rw [← hc, HSL.out.1] at this
          exact this
        have hik : (k : Int) < (S.size : Int) := by omega
        have K := KI.out c wr
        obtain ⟨cn, hcn⟩ : ∃ z : Nat, z = c.toNat := ⟨_, rfl⟩
        have ic2 : S[k].toNat = cn := by rw [ic, hcn]
        rw [← hcn] at K
        clear ic hc h1 hcn hv
        cases hd : hvO c with
        | none =>
          rw [hd] at K
          have HX : Hid (rawL l = none) := by
            show _ = _
            have h := hex_raw l.length l 0 (Nat.le_refl _) HN.out.2.2.1
            rw [HH.out.1, HD.out, hexN, hd] at h
            cases hr : rawL l with
            | none => rfl
            | some b => rw [hr] at h; cases h
          have hneg : decide ((0 : Int) ≤ -1) = false := by decide
          clear hd
          go_wp2_with fail
          refine K.mono ?_
          rintro e w1 ⟨rfl, hw1⟩
          obtain rfl : wr = w1 := hw1.symm
          clear K hw1
          go_wp2_with fail
          refine M0.out.mono ?_
          rintro e w2 ⟨rfl, rfl⟩
          exact ⟨rfl, HPN.out (by rw [HBR.out, HX.out])⟩
        | some d =>
          rw [hd] at K
          have hdl := hvO_lt hd
          obtain ⟨v16, hv16⟩ : ∃ z : Nat, z = v * 16 := ⟨_, rfl⟩
          obtain ⟨vn, hvn⟩ : ∃ z : Nat, z = v * 16 + d := ⟨_, rfl⟩
          have y1 : IntKind.u64.wrap ((v : Int) * 16) = (v16 : Int) := by rw [IntKind.wrap_u64]; omega
          have y2 : IntKind.u64.wrap (d : Int) = (d : Int) := by rw [IntKind.wrap_u64]; omega
          have y3 : bits .or .u64 (v16 : Int) (d : Int) = (vn : Int) := by rw [hv16, hvn]; exact or_nib v d (by omega) hdl
          have HX : Hid (hexN 0 l = hexN vn (l.drop (k + 1)) ∧ vn < 16 ^ (k + 1)) := by
            refine ⟨?_, ?_⟩
            · rw [HH.out.1, HD.out, hexN, hd, hvn]
            · have := HH.out.2
              rw [Nat.pow_succ, hvn]
              omega
          have hd0 : (0 : Int) ≤ (d : Int) := by omega
          clear hd hv16 hvn hvs hdl
          have M1 := must46_ok wr
          go_wp2_with fail
          refine K.mono ?_
          rintro e w1 ⟨rfl, hw1⟩
          obtain rfl : wr = w1 := hw1.symm
          clear K hw1
          go_wp2_with fail
          refine M1.mono ?_
          rintro e w2 ⟨rfl, hw2⟩
          obtain rfl : wr = w2 := hw2.symm
          clear M1 hw2
          go_wp2
          go_roundw
          case rel => exact ⟨k + 1, vn, by simp, rfl, by omega, by first | rfl | trivial, HX.out.1, HX.out.2⟩
          case measure => simp [intOf]; omega
      · have hik : ¬ (k : Int) < (S.size : Int) := by omega
        have hik2 : decide ((k : Int) < (S.size : Int)) = false := decide_eq_false hik
        have hke : k = l.length := by have := HSL.out.2; omega
        have HX : Hid (hexN 0 l = some v) := by
          show _ = _
          rw [HH.out.1, hke, List.drop_length, hexN]
        clear hke hlt hv
        obtain ⟨b, hb⟩ : ∃ b, rawL l = some b := by
          have h := hex_raw l.length l 0 (Nat.le_refl _) HN.out.2.2.1
          rw [HX.out] at h
          cases hr : rawL l with
          | none => rw [hr] at h; cases h
          | some b => exact ⟨b, rfl⟩
        have HB : Hid (rawL l = some b) := hb
        have hbl := raw_len l.length l b (Nat.le_refl _) hb
        have hvb : v = W.beL b := by
          have h := hex_raw l.length l 0 (Nat.le_refl _) HN.out.2.2.1
          rw [HX.out, hb] at h
          injection h
        have hnb : n = b.length := by have h1 := HN.out.2.2.2; have h2 := HSL.out.2; omega
        have KP := W.putBe_any v (n : Int) wr
        have HPB : Hid (W.putBeS v (n : Int) = ⟨b.toArray⟩) := by
          show _ = _
          rw [hvb, hnb]
          exact put_be b (by have := HN.out.2.1; omega)
        clear hb hbl hvb hnb
        go_wp2_with fail
        refine KP.mono ?_
        rintro e w1 ⟨rfl, hb1⟩
        clear KP
        go_wp2
        first | go_ret | skip
        rw [HPB.out]
        exact HPS.out b _ (by rw [HBR.out, HB.out]) hb1
  · have HX : Hid (bytesR l = none) := by show _ = _; unfold bytesR; rw [if_neg hlen]
    by_cases e1 : 1 ≤ n
    · have d1 : decide ((1 : Int) ≤ (n : Int)) = true := decide_eq_true (by omega)
      by_cases e2 : n ≤ 4
      · have d2 : decide ((n : Int) ≤ 4) = true := decide_eq_true (by omega)
        have d3 : ((S.size : Int) == 2 * (n : Int)) = false := by simp; omega
        have d4 : ((S.size : Int) = 2 * (n : Int)) = False := eq_false (by omega)
        clear hpost hr hS hSl hsz hnn hni hlen hn
        go_enter Tryd.func27, Tryd.ntmps27
        go_wp2_with fail
        refine M0.out.mono ?_
        rintro e w2 ⟨rfl, rfl⟩
        exact ⟨rfl, HPN.out HX.out⟩
      · have d2 : decide ((n : Int) ≤ 4) = false := decide_eq_false (by omega)
        have d2' : (n ≤ 4) = False := eq_false e2
        clear hpost hr hS hSl hsz hnn hni hlen hn e2
        go_enter Tryd.func27, Tryd.ntmps27
        go_wp2_with fail
        refine M0.out.mono ?_
        rintro e w2 ⟨rfl, rfl⟩
        exact ⟨rfl, HPN.out HX.out⟩
    · have d1 : decide ((1 : Int) ≤ (n : Int)) = false := decide_eq_false (by omega)
      have d1' : (1 ≤ n) = False := eq_false e1
      clear hpost hr hS hSl hsz hnn hni hlen hn e1
      go_enter Tryd.func27, Tryd.ntmps27
      go_wp2_with fail
      refine M0.out.mono ?_
      rintro e w2 ⟨rfl, rfl⟩
      exact ⟨rfl, HPN.out HX.out⟩
end Go.Proofs.YtglkkeelocdanaaDoor
namespace Go.Proofs.YtglkkeelocdanaaDoor
open Go.RowKit
set_option linter.unusedVariables false
set_option linter.unusedSimpArgs false
set_option maxRecDepth 100000
theorem rd_text {R : Nat} {w : World} {l : L8} (hr : Rd R w l) (l2 : L8) : Rd R (w.setCell ⟨R, 0, none⟩ (.string ⟨l2.toArray⟩)) l2 ∧ w.grownBy (w.setCell ⟨R, 0, none⟩ (.string ⟨l2.toArray⟩)) (some R) := ⟨Boxed.set _ hr, grown_set _ _ _⟩
theorem cutL_len (l : L8) : (cutL l).length ≤ l.length := by
  unfold cutL Lib.cut
  split
  · split
    · simp
    · rename_i h; simp at h
  · exact Nat.le_refl _
theorem enc_lt (i : In) (h : isIns i = true) : encN i < 4294967296 := by
  unfold encN
  rw [if_pos h]
  refine word_lt _ i ?_
  have := (found_ok (nameB i.name)).same
  show (foundR (nameB i.name)).same < _
  omega
set_option maxHeartbeats 1000000 in
/-- Behind the cut: what stands there is read. -/
theorem code29 (R : Nat) (l : L8) (hn : l.length ≤ 100000) (w w0 : World) (hr : Rd R w l) (hl0 : Lw w0) (hb0 : Below w0.heap.size w0 w) (hR0 : w0.heap.size ≤ R) :
    Calls Tryd.prog 12 #[.pointer (some ⟨R, 0, none⟩)] w fun e w' => match codeR l with
      | some b => e = .returned (.string ⟨b.toArray⟩) ∧ w.grownBy w' (some R)
      | none => e = .panicked thrown110 ∧ w.grownBy w' (some R) := by
  obtain ⟨post, hpost⟩ : ∃ p : Ending → World → Prop, p = fun e w' => match codeR l with
      | some b => e = .returned (.string ⟨b.toArray⟩) ∧ w.grownBy w' (some R)
      | none => e = .panicked thrown110 ∧ w.grownBy w' (some R) := ⟨_, rfl⟩
  rw [← hpost]
  have HPS : Hid (∀ b w', codeR l = some b → w.grownBy w' (some R) → post (.returned (.string ⟨b.toArray⟩)) w') := fun b w' h hg => by rw [hpost]; simp only [h]; exact ⟨by trivial, hg⟩
  have HPN : Hid (∀ w', codeR l = none → w.grownBy w' (some R) → post (.panicked thrown110) w') := fun w' h hg => by rw [hpost]; simp only [h]; exact ⟨by trivial, hg⟩
  have HLK : Hid (∀ W', w.grownBy W' (some R) → Lw W') := fun W' hg => lw_grown hl0 hb0 hR0 hg
  have HBK : Hid (∀ W', w.grownBy W' (some R) → Below w0.heap.size w0 W') := fun W' hg => hb0.grown hg hb0.size (fun r e => by injection e with e; omega)
  have HW0 : Hid (Lw w0 ∧ w0.heap.size ≤ R) := ⟨hl0, hR0⟩
  have hlw := hl0.keep hb0
  have KC := cut62 ⟨l.toArray⟩ ⟨#[58, 32]⟩ (by show l.toArray.size < _; simp; omega) w hlw
  rw [bal, show (⟨#[58, 32]⟩ : ByteArray).toList = [58, 32] from bal [58, 32]] at KC
  have HCL : Hid (cutL l = if (Lib.cut l [58, 32]).2.2 then (Lib.cut l [58, 32]).2.1 else l) := rfl
  have hcl := cutL_len l
  have c0 := hr.cell
  have HR : Hid (Rd R w l) := hr
  have HCD : Hid (codeR l = if dotW.isPrefixOf (cutL l) then bytesR ((cutL l).drop 8) else (insR (cutL l)).map (fun i => (W.putBeS (encN i) 4).toList)) := rfl
  generalize (Lib.cut l [58, 32]).1 = C1 at KC
  generalize (Lib.cut l [58, 32]).2.1 = C2 at KC HCL
  obtain ⟨C, hC⟩ : ∃ z, z = cutL l := ⟨_, rfl⟩
  rw [← hC] at HCL HCD hcl
  have hcn : C.length ≤ 100000 := by omega
  obtain ⟨S, hS⟩ : ∃ z : ByteArray, z = ⟨l.toArray⟩ := ⟨_, rfl⟩
  rw [← hS] at KC c0
  have HS : Hid (S = ⟨l.toArray⟩) := hS
  obtain ⟨D2, hD2⟩ : ∃ z : ByteArray, z = ⟨C2.toArray⟩ := ⟨_, rfl⟩
  rw [← hD2] at KC
  have HD2 : Hid (D2 = ⟨C2.toArray⟩) := hD2
  obtain ⟨D1, hD1⟩ : ∃ z : ByteArray, z = ⟨C1.toArray⟩ := ⟨_, rfl⟩
  rw [← hD1] at KC
  clear hpost hl0 hb0 hR0 hlw hr hC hcl hn hS hD2 hD1
  generalize (Lib.cut l [58, 32]).2.2 = C3 at KC HCL
  cases C3 with
  | true =>
    rw [if_pos rfl] at HCL
    go_enter Tryd.func12, Tryd.ntmps12
    go_wp2_with fail
    refine KC.mono ?_
    rintro e w3 ⟨rfl, hb3⟩
    clear KC
    have r3 : Rd R w3 l := (hb3.block _ HR.out.lt).trans HR.out
    have c3 := r3.cell
    have z3 := r3.frozen
    rw [← HS.out] at c3
    obtain ⟨W1, hW1⟩ : ∃ z, w3.setCell ⟨R, 0, none⟩ (.string D2) = z := ⟨_, rfl⟩
    have hG1 : w.grownBy W1 (some R) ∧ Rd R W1 C := by
      have h := rd_text r3 C
      rw [HCL.out, ← HD2.out, hW1] at h
      rw [HCL.out]
      exact ⟨gb_trans (grown_of hb3) h.2, h.1⟩
    clear hb3 r3 c0
    have HG : Hid (w.grownBy W1 (some R) ∧ Rd R W1 C) := hG1
    have c1 := HG.out.2.cell
    have z1 := HG.out.2.frozen
    have KP := prefix64 ⟨C.toArray⟩ ⟨#[46, 119, 111, 114, 100, 32, 48, 120]⟩ W1
    rw [bal, show (⟨#[46, 119, 111, 114, 100, 32, 48, 120]⟩ : ByteArray).toList = dotW from bal dotW] at KP
    obtain ⟨CB, hCB⟩ : ∃ z : ByteArray, z = ⟨C.toArray⟩ := ⟨_, rfl⟩
    rw [← hCB] at KP c1
    have HCB : Hid (CB = ⟨C.toArray⟩) := hCB
    clear hCB
    clear hG1
    cases hp : dotW.isPrefixOf C with
    | true =>
      rw [hp, trim_is _ _ hp] at KP
      rw [hp, if_pos rfl] at HCD
      have hdl : (C.drop dotW.length).length ≤ 100000 := by rw [List.length_drop]; omega
      obtain ⟨E, hE⟩ : ∃ z, z = C.drop dotW.length := ⟨_, rfl⟩
      rw [← hE] at KP hdl
      rw [show C.drop 8 = E from hE.symm] at HCD
      obtain ⟨EB, hEB⟩ : ∃ z : ByteArray, z = ⟨E.toArray⟩ := ⟨_, rfl⟩
      rw [← hEB] at KP
      obtain ⟨W2, hW2⟩ : ∃ z, W1.setCell ⟨R, 0, none⟩ (.string EB) = z := ⟨_, rfl⟩
      have HG2 : Hid (w.grownBy W2 (some R) ∧ Rd R W2 E) := by
        have h := rd_text HG.out.2 E
        rw [← hEB, hW2] at h
        exact ⟨gb_trans HG.out.1 h.2, h.1⟩
      have K65 := bytes65 R E hdl W2 HG2.out.2
      clear hE hEB hp hdl
      go_wp2_with fail
      refine KP.mono ?_
      rintro e w5 ⟨rfl, hw5⟩
      obtain rfl : W1 = w5 := hw5.symm
      clear KP hw5
      cases hb : bytesR E with
      | none =>
        rw [hb] at K65 HCD
        clear hb
        go_wp2_with fail
        refine K65.mono ?_
        rintro e w6 ⟨rfl, hb6⟩
        exact ⟨rfl, HPN.out _ HCD.out (gb_trans HG2.out.1 (grown_of hb6))⟩
      | some b =>
        rw [hb] at K65 HCD
        clear hb
        go_wp2_with fail
        refine K65.mono ?_
        rintro e w6 ⟨rfl, hb6⟩
        clear K65
        go_wp2
        first | go_ret | skip
        exact HPS.out b _ HCD.out (gb_trans HG2.out.1 (grown_of hb6))
    | false =>
      rw [hp] at KP
      rw [hp, if_neg (by decide)] at HCD
      have K17 := ins17 R C hcn W1 w0 HG.out.2 HW0.out.1 (HBK.out _ HG.out.1) HW0.out.2
      generalize (⟨(Lib.trimPrefix C dotW).toArray⟩ : ByteArray) = TB at KP
      clear hp
      go_wp2_with fail
      refine KP.mono ?_
      rintro e w5 ⟨rfl, hw5⟩
      obtain rfl : W1 = w5 := hw5.symm
      clear KP hw5
      cases hi : insR C with
      | none =>
        rw [hi] at K17 HCD
        clear hi
        go_wp2_with fail
        refine K17.mono ?_
        rintro e w6 ⟨rfl, hg6⟩
        exact ⟨rfl, HPN.out _ HCD.out (gb_trans HG.out.1 hg6)⟩
      | some i =>
        rw [hi] at K17 HCD
        obtain ⟨his, _⟩ := (insR_iff C i).1 hi
        have hbd := in_bd his
        have hel := enc_lt i his
        have K21 : Hid (∀ w', w.grownBy w' (some R) → Calls Tryd.prog 15 #[i.val] w' fun e w'' => e = .returned (.tuple #[.int .u32 (encN i : Int), .bool (isIns i)]) ∧ Below w'.heap.size w' w'') := fun w' hg => encode11 i (by have := hbd.imm; omega) w' (HLK.out w' hg).tab
        unfold In.val at K17 K21
        generalize isIns i = ib at K21
        obtain ⟨en, hen⟩ : ∃ z, z = encN i := ⟨_, rfl⟩
        rw [← hen] at K21 hel
        have HCE : Hid (codeR l = some (W.putBeS en 4).toList) := by show _ = _; rw [HCD.out, hen]; rfl
        have hue : IntKind.u64.wrap (en : Int) = (en : Int) := by rw [IntKind.wrap_u64]; omega
        have K35 : Hid (∀ w', Calls Tryd.prog 21 #[.int .u64 (en : Int), .int .i64 4] w' fun e w'' => e = .returned (.string (W.putBeS en 4)) ∧ Below w'.heap.size w' w'') := fun w' => W.putBe_any en 4 w'
        have HPB : Hid (W.putBeS en 4 = ⟨(W.putBeS en 4).toList.toArray⟩) := (ba_list _).symm
        generalize W.putBeS en 4 = PB at K35 HPB HCE
        clear hi his hbd hel hen HCD
        go_wp2_with fail
        refine K17.mono ?_
        rintro e w6 ⟨rfl, hg6⟩
        clear K17
        have HG6 : Hid (w.grownBy w6 (some R)) := gb_trans HG.out.1 hg6
        have KK := K21.out w6 HG6.out
        clear K21 hg6
        go_wp2_with fail
        refine KK.mono ?_
        rintro e w7 ⟨rfl, hb7⟩
        clear KK
        have HG7 : Hid (w.grownBy w7 (some R)) := gb_trans HG6.out (grown_of hb7)
        have KK := K35.out w7
        clear K35 hb7
        go_wp2_with fail
        refine KK.mono ?_
        rintro e w8 ⟨rfl, hb8⟩
        clear KK
        go_wp2
        first | go_ret | skip
        rw [HPB.out]
        exact HPS.out _ _ HCE.out (gb_trans HG7.out (grown_of hb8))
  | false =>
    rw [if_neg (by decide)] at HCL
    go_enter Tryd.func12, Tryd.ntmps12
    go_wp2_with fail
    refine KC.mono ?_
    rintro e w3 ⟨rfl, hb3⟩
    clear KC
    have r3 : Rd R w3 l := (hb3.block _ HR.out.lt).trans HR.out
    have hG1 : w.grownBy w3 (some R) ∧ Rd R w3 C := by
      rw [HCL.out]
      exact ⟨grown_of hb3, r3⟩
    clear hb3 r3 c0
    have HG : Hid (w.grownBy w3 (some R) ∧ Rd R w3 C) := hG1
    have c1 := HG.out.2.cell
    have z1 := HG.out.2.frozen
    have KP := prefix64 ⟨C.toArray⟩ ⟨#[46, 119, 111, 114, 100, 32, 48, 120]⟩ w3
    rw [bal, show (⟨#[46, 119, 111, 114, 100, 32, 48, 120]⟩ : ByteArray).toList = dotW from bal dotW] at KP
    obtain ⟨CB, hCB⟩ : ∃ z : ByteArray, z = ⟨C.toArray⟩ := ⟨_, rfl⟩
    rw [← hCB] at KP c1
    have HCB : Hid (CB = ⟨C.toArray⟩) := hCB
    clear hCB
    clear hG1
    cases hp : dotW.isPrefixOf C with
    | true =>
      rw [hp, trim_is _ _ hp] at KP
      rw [hp, if_pos rfl] at HCD
      have hdl : (C.drop dotW.length).length ≤ 100000 := by rw [List.length_drop]; omega
      obtain ⟨E, hE⟩ : ∃ z, z = C.drop dotW.length := ⟨_, rfl⟩
      rw [← hE] at KP hdl
      rw [show C.drop 8 = E from hE.symm] at HCD
      obtain ⟨EB, hEB⟩ : ∃ z : ByteArray, z = ⟨E.toArray⟩ := ⟨_, rfl⟩
      rw [← hEB] at KP
      obtain ⟨W2, hW2⟩ : ∃ z, w3.setCell ⟨R, 0, none⟩ (.string EB) = z := ⟨_, rfl⟩
      have HG2 : Hid (w.grownBy W2 (some R) ∧ Rd R W2 E) := by
        have h := rd_text HG.out.2 E
        rw [← hEB, hW2] at h
        exact ⟨gb_trans HG.out.1 h.2, h.1⟩
      have K65 := bytes65 R E hdl W2 HG2.out.2
      clear hE hEB hp hdl
      go_wp2_with fail
      refine KP.mono ?_
      rintro e w5 ⟨rfl, hw5⟩
      obtain rfl : w3 = w5 := hw5.symm
      clear KP hw5
      cases hb : bytesR E with
      | none =>
        rw [hb] at K65 HCD
        clear hb
        go_wp2_with fail
        refine K65.mono ?_
        rintro e w6 ⟨rfl, hb6⟩
        exact ⟨rfl, HPN.out _ HCD.out (gb_trans HG2.out.1 (grown_of hb6))⟩
      | some b =>
        rw [hb] at K65 HCD
        clear hb
        go_wp2_with fail
        refine K65.mono ?_
        rintro e w6 ⟨rfl, hb6⟩
        clear K65
        go_wp2
        first | go_ret | skip
        exact HPS.out b _ HCD.out (gb_trans HG2.out.1 (grown_of hb6))
    | false =>
      rw [hp] at KP
      rw [hp, if_neg (by decide)] at HCD
      have K17 := ins17 R C hcn w3 w0 HG.out.2 HW0.out.1 (HBK.out _ HG.out.1) HW0.out.2
      generalize (⟨(Lib.trimPrefix C dotW).toArray⟩ : ByteArray) = TB at KP
      clear hp
      go_wp2_with fail
      refine KP.mono ?_
      rintro e w5 ⟨rfl, hw5⟩
      obtain rfl : w3 = w5 := hw5.symm
      clear KP hw5
      cases hi : insR C with
      | none =>
        rw [hi] at K17 HCD
        clear hi
        go_wp2_with fail
        refine K17.mono ?_
        rintro e w6 ⟨rfl, hg6⟩
        exact ⟨rfl, HPN.out _ HCD.out (gb_trans HG.out.1 hg6)⟩
      | some i =>
        rw [hi] at K17 HCD
        obtain ⟨his, _⟩ := (insR_iff C i).1 hi
        have hbd := in_bd his
        have hel := enc_lt i his
        have K21 : Hid (∀ w', w.grownBy w' (some R) → Calls Tryd.prog 15 #[i.val] w' fun e w'' => e = .returned (.tuple #[.int .u32 (encN i : Int), .bool (isIns i)]) ∧ Below w'.heap.size w' w'') := fun w' hg => encode11 i (by have := hbd.imm; omega) w' (HLK.out w' hg).tab
        unfold In.val at K17 K21
        generalize isIns i = ib at K21
        obtain ⟨en, hen⟩ : ∃ z, z = encN i := ⟨_, rfl⟩
        rw [← hen] at K21 hel
        have HCE : Hid (codeR l = some (W.putBeS en 4).toList) := by show _ = _; rw [HCD.out, hen]; rfl
        have hue : IntKind.u64.wrap (en : Int) = (en : Int) := by rw [IntKind.wrap_u64]; omega
        have K35 : Hid (∀ w', Calls Tryd.prog 21 #[.int .u64 (en : Int), .int .i64 4] w' fun e w'' => e = .returned (.string (W.putBeS en 4)) ∧ Below w'.heap.size w' w'') := fun w' => W.putBe_any en 4 w'
        have HPB : Hid (W.putBeS en 4 = ⟨(W.putBeS en 4).toList.toArray⟩) := (ba_list _).symm
        generalize W.putBeS en 4 = PB at K35 HPB HCE
        clear hi his hbd hel hen HCD
        go_wp2_with fail
        refine K17.mono ?_
        rintro e w6 ⟨rfl, hg6⟩
        clear K17
        have HG6 : Hid (w.grownBy w6 (some R)) := gb_trans HG.out.1 hg6
        have KK := K21.out w6 HG6.out
        clear K21 hg6
        go_wp2_with fail
        refine KK.mono ?_
        rintro e w7 ⟨rfl, hb7⟩
        clear KK
        have HG7 : Hid (w.grownBy w7 (some R)) := gb_trans HG6.out (grown_of hb7)
        have KK := K35.out w7
        clear K35 hb7
        go_wp2_with fail
        refine KK.mono ?_
        rintro e w8 ⟨rfl, hb8⟩
        clear KK
        go_wp2
        first | go_ret | skip
        rw [HPB.out]
        exact HPS.out _ _ HCE.out (gb_trans HG7.out (grown_of hb8))
theorem catch63 (p : Addr) (w : World) (hp : (w.cell? p).isSome = true) (hy : w.frozen? p = false) :
    CallsD Tryd.prog 25 #[.pointer (some p)] (.panicking thrown110) w fun e u' w' =>
      e = .returned (.tuple #[]) ∧ u' = .panicking [{ v := .iface 23 (.int .i64 110), recovered := true }] ∧ w' = w.setCell p (.int .i64 110) := by
  obtain ⟨o', hp⟩ := Option.isSome_iff_exists.1 hp
  have ha := assert_110
  refine callsD_of_wpS Tryd.func25 rfl fun c₀ cs hu => ?_
  apply wpS_seq
  apply wpS_region
  simp [wpOpsS, go_sem, recoverD, hu, ha, Tryd.ntmps25, Exit.thenS]
  apply wpS_seq
  apply wpS_region
  simp [wpOpsS, go_sem, Exit.thenS]
  refine wpS_cond (t := true) (by simp [Act.eval, Array.replicate]) ?_
  simp only [if_true]
  apply wpS_region
  simp [wpOpsS, go_sem, hp, hy, bodyPostS, results, Tryd.results25]
theorem idle63 (p : Addr) (w : World) :
    CallsD Tryd.prog 25 #[.pointer (some p)] .returning w fun e u' w' => e = .returned (.tuple #[]) ∧ u' = .returning ∧ w' = w := by
  have ha := assert_nil
  refine callsD_of_wpS Tryd.func25 rfl fun c₀ cs hu => ?_
  apply wpS_seq
  apply wpS_region
  simp [wpOpsS, go_sem, recoverD, hu, ha, Tryd.ntmps25, Exit.thenS]
  apply wpS_seq
  apply wpS_region
  simp [wpOpsS, go_sem, Exit.thenS]
  refine wpS_cond (t := false) (by simp [Act.eval, Array.replicate]) ?_
  simp only [Bool.false_eq_true, if_false]
  refine wpS_of_wp (wp_skip ?_)
  cases c₀
  simp_all [bodyPostS, results, Tryd.results25]
theorem box2r (w : World) (S : ByteArray) : ∃ W, (w.alloc (.cells #[.int .i64 0] 23)).alloc (.cells #[.string S] 62) = W ∧ Below w.heap.size w W ∧ W.heap.size = w.heap.size + 2 ∧
    Boxed W w.heap.size 23 (.int .i64 0) ∧ Boxed W (w.heap.size + 1) 62 (.string S) := by
  refine ⟨_, rfl, ((Below.refl _ _).alloc (Nat.le_refl _) _).alloc (by simp) _, by simp, ?_, ?_⟩
  · exact (Boxed.new w 23 (.int .i64 0)).alloc _
  · have := Boxed.new (w.alloc (.cells #[.int .i64 0] 23)) 62 (.string S)
    rw [World.size_alloc] at this
    exact this
/-- What read tells of a line. -/
def codV (l : L8) : Value := .tuple #[.string ⟨((codeR l).getD []).toArray⟩, .int .i64 (if (codeR l).isSome then 0 else 110)]
set_option maxHeartbeats 1000000 in
theorem read28 (l : L8) (hn : l.length ≤ 100000) (w : World) (hl : Lw w) :
    Calls Tryd.prog 11 #[.string ⟨l.toArray⟩, .func (.func 12) #[] #[]] w fun e w' => e = .returned (codV l) ∧ Below w.heap.size w w' := by
  have hmf : ∀ (fn : Fn) (first cap : Array Value) (w : World), (Instr.makeFunc fn first cap).run Tryd.prog w = .ok (.func fn first cap) w := fun _ _ _ _ => rfl
  obtain ⟨W, hW, hb, hz, b1, r2⟩ := box2r w ⟨l.toArray⟩
  have K29 := code29 (w.heap.size + 1) l hn W w r2 hl hb (by omega)
  have HP : Hid (codV l = .tuple #[.string ⟨((codeR l).getD []).toArray⟩, .int .i64 (if (codeR l).isSome then 0 else 110)]) := rfl
  have H0 : Hid (Below w.heap.size w W ∧ Boxed W w.heap.size 23 (.int .i64 0) ∧ W.heap.size = w.heap.size + 2) := ⟨hb, b1, hz⟩
  obtain ⟨V, hV⟩ : ∃ z, z = codV l := ⟨_, rfl⟩
  rw [← hV] at HP ⊢
  generalize (⟨l.toArray⟩ : ByteArray) = S at hW ⊢
  clear hV hb hz b1 r2
  cases hi : codeR l with
  | some b =>
    rw [hi] at K29 HP
    have HP : Hid (V = .tuple #[.string ⟨b.toArray⟩, .int .i64 0]) := HP
    clear hi
    go_enter_defers Tryd.func11, Tryd.ntmps11
    go_wp2_with fail
    refine K29.mono ?_
    rintro e w2 ⟨rfl, hg2⟩
    have hz := H0.out.2.2
    have b2 := H0.out.2.1.kept hg2 (by intro e; injection e with e; omega)
    have p0 := b2.cell
    have y0 := b2.frozen
    have g9 := grown_set w2 w.heap.size (.int .i64 0)
    obtain ⟨W9, hW9⟩ : ∃ z, w2.setCell ⟨w.heap.size, 0, none⟩ (.int .i64 0) = z := ⟨_, rfl⟩
    have b9 := Boxed.set (.int .i64 0) b2
    rw [hW9] at b9 g9
    have HB9 : Hid (Below w.heap.size w W9) := by
      have h1 : Below w.heap.size w w2 := H0.out.1.grown hg2 H0.out.1.size (fun k e => by injection e with e; omega)
      exact h1.grown g9 h1.size (fun k e => by injection e with e; omega)
    have s6 := b9.cell
    clear K29 hg2 b2 g9 b9 hz
    go_wp2
    refine leaves_cons (f := 25) (args := #[.pointer (some ⟨w.heap.size, 0, none⟩)]) (by simp) (by simp [go_sem]) ?_
    refine (idle63 ⟨w.heap.size, 0, none⟩ _).mono ?_
    rintro e u' w'' ⟨rfl, rfl, rfl⟩
    have HB9 := HB9.out
    have HP := HP.out
    simp [Leaves, settle, results, Tryd.results11, go_sem, s6, HB9, HP]
  | none =>
    rw [hi] at K29 HP
    have HP : Hid (V = .tuple #[.string ⟨#[]⟩, .int .i64 110]) := HP
    clear hi
    go_enter_defers Tryd.func11, Tryd.ntmps11
    go_wp2_with fail
    refine K29.mono ?_
    rintro e w2 ⟨rfl, hg2⟩
    have hz := H0.out.2.2
    have b2 := H0.out.2.1.kept hg2 (by intro e; injection e with e; omega)
    have g9 := grown_set w2 w.heap.size (.int .i64 110)
    have b9 := Boxed.set (.int .i64 110) b2
    have HB9 : Hid (Below w.heap.size w (w2.setCell ⟨w.heap.size, 0, none⟩ (.int .i64 110))) := by
      have h1 : Below w.heap.size w w2 := H0.out.1.grown hg2 H0.out.1.size (fun k e => by injection e with e; omega)
      exact h1.grown g9 h1.size (fun k e => by injection e with e; omega)
    have s6 := b9.cell
    have HBX : Hid (Boxed w2 w.heap.size 23 (.int .i64 0)) := b2
    clear K29 hg2 b2 g9 b9 hz
    go_wp2
    refine leaves_cons (f := 25) (args := #[.pointer (some ⟨w.heap.size, 0, none⟩)]) (by simp) (by simp [go_sem]) ?_
    refine (catch63 ⟨w.heap.size, 0, none⟩ w2 (by rw [HBX.out.cell]; rfl) HBX.out.frozen).mono ?_
    rintro e u' w'' ⟨rfl, rfl, rfl⟩
    have HB9 := HB9.out
    have HP := HP.out
    simp [Leaves, settle, results, Tryd.results11, go_sem, s6, HB9, HP]
end Go.Proofs.YtglkkeelocdanaaDoor
