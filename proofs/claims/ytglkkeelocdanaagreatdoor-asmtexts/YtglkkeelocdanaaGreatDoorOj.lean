/- What is proved here: words as text: the document's Listing. -/
import Derived.Test.YtglkkeelocdanaaGreatDoorOh
import Derived.Test.YtglkkeelocdanaaGreatDoorNv
import Derived.Test.YtglkkeelocdanaaGreatDoorNn
import Derived.Test.YtglkkeelocdanaaGreatDoorDn
import Derived.Test.YtglkkeelocdanaaGreatDoorWRef
import Derived.LoopTactic
import Derived.LoopN
namespace Go.Proofs.YtglkkeelocdanaaGreatDoor
open Go.RowKit
set_option linter.unusedVariables false
set_option linter.unusedSimpArgs false
set_option maxRecDepth 100000
def szOf : Value → Nat
  | .string s => s.size
  | _ => 0
theorem ck_drop (l : L8) (j : Nat) : ck l j = (l.drop (4 * j)).take 4 := by
  unfold ck
  rw [List.drop_take]
  congr 1
  omega
theorem sum5 (a b c d e : L8) : ((((⟨a.toArray⟩ : ByteArray) ++ ⟨b.toArray⟩) ++ ⟨c.toArray⟩) ++ ⟨d.toArray⟩) ++ ⟨e.toArray⟩ = ⟨(a ++ (((b ++ c) ++ d) ++ e)).toArray⟩ := by
  rw [ba_app, ba_app, ba_app, ba_app]
  simp only [List.append_assoc]
set_option maxHeartbeats 1000000 in
theorem rlisting14 (l : L8) (hn : l.length ≤ 1000) (a : Nat) (ha : a < 4294967296) (w : World) : Calls Tryz.prog 14 #[.string ⟨l.toArray⟩, .int .u32 (a : Int)] w fun e w' => e = .returned (.string ⟨(lstL l a).toArray⟩) ∧ Below w.heap.size w w' := by
  obtain ⟨S, hS⟩ : ∃ z : ByteArray, z = ⟨l.toArray⟩ := ⟨_, rfl⟩
  have HS : Hid (S.toList = l ∧ S.size = l.length ∧ l.length ≤ 1000) := by
    have h : S.toList = l := by rw [hS]; exact bal l
    exact ⟨h, by rw [← h, bt_len], hn⟩
  obtain ⟨FR, hFR⟩ : ∃ z : ByteArray, z = ⟨(lstL l a).toArray⟩ := ⟨_, rfl⟩
  have HFR : Hid (FR = ⟨(outL l a (ckN l)).toArray⟩) := hFR
  rw [← hS, ← hFR]
  clear hS hFR hn
  go_enter Tryz.func14, Tryz.ntmps14
  go_wp2
  go_loopw [0, 1, 5] (fun x y z wr => ∃ (j A : Nat) (L O : ByteArray), x = .string L ∧ y = .int .u32 (A : Int) ∧ z = .string O ∧ L.toList = l.drop (4 * j) ∧ O = ⟨(outL l a j).toArray⟩ ∧ (4 * j < l.length → A = (a + 4 * j) % 4294967296) ∧ A < 4294967296 ∧ 4 * j < l.length + 4 ∧ Below w.heap.size w wr) (fun x _ _ _ => szOf x)
  case atStart => exact ⟨0, a, S, ⟨#[]⟩, rfl, rfl, rfl, by rw [HS.out.1]; rfl, rfl, fun _ => by omega, ha, by omega, Below.refl _ _⟩
  case round =>
    obtain ⟨j, A, L, O, rfl, rfl, rfl, hL, hO, hA, hAl, hj, hb⟩ := hrel
    have HB : Hid (Below w.heap.size w wr) := hb
    have hLs : L.size = l.length - 4 * j := by rw [← bt_len, hL, List.length_drop]
    have HJ : Hid (L.toList = l.drop (4 * j) ∧ O = ⟨(outL l a j).toArray⟩ ∧ (4 * j < l.length → A = (a + 4 * j) % 4294967296) ∧ 4 * j < l.length + 4 ∧ L.size = l.length - 4 * j) := ⟨hL, hO, hA, hj, hLs⟩
    by_cases hem : L.size = 0
    · have he : L.toList.isEmpty = true := by
        have : L.toList = [] := List.length_eq_zero_iff.1 (by rw [bt_len]; exact hem)
        rw [this]; rfl
      have HE : Hid (O = FR) := by
        show _ = _
        rw [hO, HFR.out, show j = ckN l by unfold ckN; omega]
      clear hL hO hA hj hb hLs hem
      go_wp2
      first | go_ret | skip
      exact ⟨by rw [← HE.out]; rfl, HB.out⟩
    · have he : L.toList.isEmpty = false := by
        cases hh : L.toList with
        | nil => exact absurd (by rw [← bt_len, hh]; rfl) hem
        | cons c t => rfl
      have hlt : 4 * j < l.length := by omega
      have hAA := hA hlt
      have hol := out_lenL l a j
      have hOs : O.size ≤ 1342177600 * 1000 := by
        rw [hO]
        show Array.size _ ≤ _
        have h1 := HS.out.2.2
        have : 1342177600 * j ≤ 1342177600 * 1000 := Nat.mul_le_mul_left _ (by omega)
        simp
        omega
      obtain ⟨q, hq⟩ : ∃ q : Nat, q = min 4 L.size := ⟨_, rfl⟩
      have hqi : min (4 : Int) (L.size : Int) = (q : Int) := by omega
      have hq0 : 1 ≤ q ∧ q ≤ 4 ∧ q ≤ L.size := by omega
      obtain ⟨PC, hPC⟩ : ∃ z : ByteArray, z = ⟨(ck l j).toArray⟩ := ⟨_, rfl⟩
      have hPs : PC.size = q := by
        rw [hPC]
        show Array.size _ = _
        rw [ck_drop]
        simp
        omega
      have hex : L.extract 0 q = PC := by
        rw [ext_list, hPC, ck_drop, hL, List.drop_zero]
        congr 2
        by_cases h4 : 4 ≤ L.size
        · rw [show q = 4 by omega]
        · rw [List.take_of_length_le (by rw [List.length_drop]; omega), List.take_of_length_le (by rw [List.length_drop]; omega)]
      obtain ⟨L2, hL2⟩ : ∃ z : ByteArray, z = L.extract q L.size := ⟨_, rfl⟩
      have hex2 : L.extract q L.size = L2 := hL2.symm
      have HL2 : Hid (L2.toList = l.drop (4 * (j + 1)) ∧ L2.size < L.size) := by
        have h1 : L2.toList = l.drop (4 * j + q) := by
          rw [hL2, ext_list, bal, hL, ← List.drop_drop]
          congr 1
          rw [List.take_of_length_le (by rw [List.length_drop]; omega)]
        refine ⟨?_, ?_⟩
        · rw [h1]
          by_cases h4 : 4 ≤ L.size
          · rw [show 4 * j + q = 4 * (j + 1) by omega]
          · rw [List.drop_eq_nil_of_le (by omega), List.drop_eq_nil_of_le (by omega)]
        · rw [← bt_len, h1, List.length_drop]; omega
      obtain ⟨PB, hPB⟩ : ∃ z, z = W.putBeS A 4 := ⟨_, rfl⟩
      obtain ⟨HX, hHX⟩ : ∃ z : ByteArray, z = ⟨(hexL PB.toList).toArray⟩ := ⟨_, rfl⟩
      obtain ⟨WD, hWD⟩ : ∃ z : ByteArray, z = ⟨(wdL PC).toArray⟩ := ⟨_, rfl⟩
      have sPB : PB.size = 4 := by rw [hPB]; exact pb_len A
      have sHX : HX.size = 8 := by rw [hHX]; show Array.size _ = _; have := hex_len PB.toList; rw [bt_len, sPB] at this; simpa using this
      have sWD : WD.size ≤ 1342177500 := by rw [hWD]; show Array.size _ ≤ _; have := wd_len PC (by omega); simpa using this
      have K32 : Hid (∀ w', Calls Tryz.prog 32 #[.int .u64 (A : Int), .int .i64 4] w' fun e w'' => e = .returned (.string PB) ∧ Below w'.heap.size w' w'') := fun w' => by rw [hPB]; exact W.rputBe_any A (by omega) 4 w'
      have K37 : Hid (∀ w', Calls Tryz.prog 37 #[.string PB] w' fun e w'' => e = .returned (.string HX) ∧ Below w'.heap.size w' w'') := fun w' => by rw [hHX]; exact hex37 PB (by omega) w'
      obtain ⟨X1, e1⟩ : ∃ z : ByteArray, z = O ++ HX := ⟨_, rfl⟩
      obtain ⟨X2, e2⟩ : ∃ z : ByteArray, z = X1 ++ ⟨#[58, 32]⟩ := ⟨_, rfl⟩
      obtain ⟨X3, e3⟩ : ∃ z : ByteArray, z = X2 ++ WD := ⟨_, rfl⟩
      obtain ⟨X4, e4⟩ : ∃ z : ByteArray, z = X3 ++ ⟨#[10]⟩ := ⟨_, rfl⟩
      have s1 : X1.size = O.size + 8 := by rw [e1, ByteArray.size_append, sHX]
      have s2 : X2.size = O.size + 8 + 2 := by rw [e2, ByteArray.size_append, s1]; rfl
      have s3 : X3.size = O.size + 8 + 2 + WD.size := by rw [e3, ByteArray.size_append, s2]
      have s4 : X4.size = O.size + 8 + 2 + WD.size + 1 := by rw [e4, ByteArray.size_append, s3]; rfl
      have a1 : ∀ wx, (Op.stringOp .add O HX).run Tryz.prog wx = .ok (.string X1) wx := fun wx => by rw [e1]; exact run_string_add_sum wx _ _ (by rw [← ByteArray.size_append, ← e1]; omega)
      have a2 : ∀ wx, (Op.stringOp .add X1 ⟨#[58, 32]⟩).run Tryz.prog wx = .ok (.string X2) wx := fun wx => by rw [e2]; exact run_string_add_sum wx _ _ (by rw [← ByteArray.size_append, ← e2]; omega)
      have a3 : ∀ wx, (Op.stringOp .add X2 WD).run Tryz.prog wx = .ok (.string X3) wx := fun wx => by rw [e3]; exact run_string_add_sum wx _ _ (by rw [← ByteArray.size_append, ← e3]; omega)
      have a4 : ∀ wx, (Op.stringOp .add X3 ⟨#[10]⟩).run Tryz.prog wx = .ok (.string X4) wx := fun wx => by rw [e4]; exact run_string_add_sum wx _ _ (by rw [← ByteArray.size_append, ← e4]; omega)
      have HX4 : Hid (X4 = ⟨(outL l a (j + 1)).toArray⟩) := by
        show _ = _
        rw [e4, e3, e2, e1, hHX, hWD, hPB, hPC, hO, hAA, outL_snoc]
        unfold lnL
        exact sum5 _ _ [58, 32] _ [10]
      obtain ⟨A1, hA1⟩ : ∃ z, z = (A + q) % 4294967296 := ⟨_, rfl⟩
      have hA1i : ((A : Int) + (q : Int)) % 4294967296 = (A1 : Int) := by omega
      have hq32 : (q : Int) % 4294967296 = (q : Int) := by omega
      have hu64 : IntKind.u64.wrap (A : Int) = (A : Int) := by rw [IntKind.wrap_u64]; omega
      have HN : Hid (A1 < 4294967296 ∧ (4 * (j + 1) < l.length → A1 = (a + 4 * (j + 1)) % 4294967296) ∧ 4 * (j + 1) < l.length + 4) := by
        refine ⟨by omega, fun h => ?_, by omega⟩
        have : q = 4 := by omega
        omega
      have KH : Hid (∀ w', Calls Tryz.prog 37 #[.string PC] w' fun e w'' => e = .returned (.string ⟨(hexL PC.toList).toArray⟩) ∧ Below w'.heap.size w' w'') := fun w' => hex37 PC (by omega) w'
      obtain ⟨HP, hHP⟩ : ∃ z : ByteArray, z = ⟨(hexL PC.toList).toArray⟩ := ⟨_, rfl⟩
      rw [← hHP] at KH
      have sHP : HP.size ≤ 8 := by rw [hHP]; show Array.size _ ≤ _; have := hex_len PC.toList; rw [bt_len, hPs] at this; simp; omega
      obtain ⟨DW, hDW⟩ : ∃ z : ByteArray, z = ⟨#[46, 119, 111, 114, 100, 32, 48, 120]⟩ ++ HP := ⟨_, rfl⟩
      have aD : ∀ wx, (Op.stringOp .add ⟨#[46, 119, 111, 114, 100, 32, 48, 120]⟩ HP).run Tryz.prog wx = .ok (.string DW) wx := fun wx => by rw [hDW]; exact run_string_add_sum wx _ _ (by have : (⟨#[46, 119, 111, 114, 100, 32, 48, 120]⟩ : ByteArray).size = 8 := rfl; omega)
      have HDW : Hid (DW = ⟨(dotW ++ hexL PC.toList).toArray⟩) := by show _ = _; rw [hDW, hHP]; exact ba_app dotW _
      have hql : (q : Int) ≤ (L.size : Int) := by omega
      have HWD : Hid (WD = ⟨(wdL PC).toArray⟩ ∧ PC.size = q) := ⟨hWD, hPs⟩
      clear hL hO hA hb hLs hem hAA hol hOs hPC hL2 hPB hHX hWD sPB sHX sWD e1 e2 e3 e4 s1 s2 s3 s4 hA1 hHP sHP hDW hj hlt hq
      have K1 := KH.out wr
      by_cases h4 : q = 4
      · have hq4 : ((q : Int) == 4) = true := by simp; omega
        subst h4
        have h4l : (4 : Int) ≤ (L.size : Int) := hql
        have KB := W.rbe_any PC
        have hw : (W.beS PC : Int) % 4294967296 = (wdN PC : Int) := by unfold wdN; omega
        have hx : wdN PC < 4294967296 := by unfold wdN; omega
        have KBE : Hid (∀ w', Calls Tryz.prog 39 #[.string PC] w' fun e w'' => e = .returned (.int .u64 (W.beS PC : Int)) ∧ w'' = w') := fun w' => KB w' (by have := HWD.out.2; omega)
        have K38 : Hid (∀ w', Calls Tryz.prog 38 #[.int .u32 (wdN PC : Int)] w' fun e w'' => e = .returned (.tuple #[(decN (wdN PC)).val, .bool (isWord (wdN PC))]) ∧ Below w'.heap.size w' w'') := fun w' => decodeD9 _ hx w'
        have him := dec_imm _ hx
        have K10 : Hid (∀ w', Calls Tryz.prog 10 #[(decN (wdN PC)).val] w' fun e w'' => e = .returned (.string ⟨(lineL (decN (wdN PC))).toArray⟩) ∧ Below w'.heap.size w' w'') := fun w' => rline10 _ him w'
        have HE : Hid (wdL PC = if isWord (wdN PC) && decide (4 ≤ PC.size) then lineL (decN (wdN PC)) else dotW ++ hexL PC.toList) := rfl
        generalize W.beS PC = be at KBE hw
        generalize wdN PC = x at K38 K10 HE hw
        generalize lineL (decN x) = LX at K10 HE
        generalize decN x = D at K38 K10
        generalize isWord x = ib at K38 HE
        unfold In.val at K38 K10
        clear KB him hx
        cases ib with
        | false =>
          have HWE : Hid (DW = WD) := by show _ = _; rw [HDW.out, HWD.out.1, HE.out]; rfl
          have a3 : ∀ wx, (Op.stringOp .add X2 DW).run Tryz.prog wx = .ok (.string X3) wx := by rw [HWE.out]; exact a3
          go_wp2_with fail
          refine K1.mono ?_
          rintro e w1 ⟨rfl, hb1⟩
          have HB1 : Hid (Below w.heap.size w w1) := below_tr HB.out hb1
          clear K1 hb1
          have K2 := KBE.out w1
          go_wp2_with fail
          refine K2.mono ?_
          rintro e w2 ⟨rfl, hw2⟩
          obtain rfl : w1 = w2 := hw2.symm
          clear K2 hw2
          have K3 := K38.out w1
          go_wp2_with fail
          refine K3.mono ?_
          rintro e w3 ⟨rfl, hb3⟩
          have hb3' := below_tr HB1.out hb3
          obtain ⟨W3, hW3⟩ : ∃ z, w3.alloc (.cells #[.string D.name, .int .i64 D.rs, .int .i64 D.rt, .int .i64 D.rd, .int .i64 D.sa, .int .u32 (D.imm : Int)] 24) = z := ⟨_, rfl⟩
          have HB3 : Hid (Below w.heap.size w W3) := by rw [← hW3]; exact hb3'.alloc hb3'.size _
          clear K3 hb3 hb3'
          have K5 := K32.out W3
          go_wp2_with fail
          refine K5.mono ?_
          rintro e w5 ⟨rfl, hb5⟩
          have HB5 : Hid (Below w.heap.size w w5) := below_tr HB3.out hb5
          clear K5 hb5 hW3
          have K6 := K37.out w5
          go_wp2_with fail
          refine K6.mono ?_
          rintro e w6 ⟨rfl, hb6⟩
          have HB6 : Hid (Below w.heap.size w w6) := below_tr HB5.out hb6
          clear K6 hb6
          go_wp2
          go_roundw
          case rel => exact ⟨j + 1, A1, L2, X4, by first | rfl | simp, by first | rfl | (simp; done) | (simp; have := hA1i; omega), by first | rfl | simp, HL2.out.1, HX4.out, HN.out.2.1, HN.out.1, HN.out.2.2, HB6.out⟩
          case measure => have := HL2.out.2; simp [szOf]; omega
        | true =>
          have HWE : Hid ((⟨LX.toArray⟩ : ByteArray) = WD) := by show _ = _; rw [HWD.out.1, HE.out, HWD.out.2]; rfl
          go_wp2_with fail
          refine K1.mono ?_
          rintro e w1 ⟨rfl, hb1⟩
          have HB1 : Hid (Below w.heap.size w w1) := below_tr HB.out hb1
          clear K1 hb1
          have K2 := KBE.out w1
          go_wp2_with fail
          refine K2.mono ?_
          rintro e w2 ⟨rfl, hw2⟩
          obtain rfl : w1 = w2 := hw2.symm
          clear K2 hw2
          have K3 := K38.out w1
          go_wp2_with fail
          refine K3.mono ?_
          rintro e w3 ⟨rfl, hb3⟩
          have hb3' := below_tr HB1.out hb3
          obtain ⟨W3, hW3⟩ : ∃ z, w3.alloc (.cells #[.string D.name, .int .i64 D.rs, .int .i64 D.rt, .int .i64 D.rd, .int .i64 D.sa, .int .u32 (D.imm : Int)] 24) = z := ⟨_, rfl⟩
          have HB3 : Hid (Below w.heap.size w W3) := by rw [← hW3]; exact hb3'.alloc hb3'.size _
          have I3 : In6 D w3.heap.size W3 := by rw [← hW3]; exact In6.new D w3
          obtain ⟨d0, d1, d2, d3, d4, d5⟩ := I3.cells
          have K4 := K10.out W3
          clear K3 hb3 hb3' I3
          go_wp2_with fail
          refine K4.mono ?_
          rintro e w4 ⟨rfl, hb4⟩
          have HB4 : Hid (Below w.heap.size w w4) := below_tr HB3.out hb4
          clear K4 hb4 hW3 d0 d1 d2 d3 d4 d5
          rw [HWE.out]
          have K5 := K32.out w4
          go_wp2_with fail
          refine K5.mono ?_
          rintro e w5 ⟨rfl, hb5⟩
          have HB5 : Hid (Below w.heap.size w w5) := below_tr HB4.out hb5
          clear K5 hb5 
          have K6 := K37.out w5
          go_wp2_with fail
          refine K6.mono ?_
          rintro e w6 ⟨rfl, hb6⟩
          have HB6 : Hid (Below w.heap.size w w6) := below_tr HB5.out hb6
          clear K6 hb6
          go_wp2
          go_roundw
          case rel => exact ⟨j + 1, A1, L2, X4, by first | rfl | simp, by first | rfl | (simp; done) | (simp; have := hA1i; omega), by first | rfl | simp, HL2.out.1, HX4.out, HN.out.2.1, HN.out.1, HN.out.2.2, HB6.out⟩
          case measure => have := HL2.out.2; simp [szOf]; omega
      · have hq4 : ((q : Int) == 4) = false := by simp; omega
        have hq4' : ((q : Int) = 4) = False := eq_false (by omega)
        have HWE : Hid (DW = WD) := by
          show _ = _
          rw [HDW.out, HWD.out.1]
          unfold wdL
          rw [decide_eq_false (by have := HWD.out.2; omega), Bool.and_false, if_neg (by decide)]
        clear h4
        have a3 : ∀ wx, (Op.stringOp .add X2 DW).run Tryz.prog wx = .ok (.string X3) wx := by rw [HWE.out]; exact a3
        go_wp2_with fail
        refine K1.mono ?_
        rintro e w1 ⟨rfl, hb1⟩
        have HB1 : Hid (Below w.heap.size w w1) := below_tr HB.out hb1
        clear K1 hb1
        have K5 := K32.out w1
        go_wp2_with fail
        refine K5.mono ?_
        rintro e w5 ⟨rfl, hb5⟩
        have HB5 : Hid (Below w.heap.size w w5) := below_tr HB1.out hb5
        clear K5 hb5 
        have K6 := K37.out w5
        go_wp2_with fail
        refine K6.mono ?_
        rintro e w6 ⟨rfl, hb6⟩
        have HB6 : Hid (Below w.heap.size w w6) := below_tr HB5.out hb6
        clear K6 hb6
        go_wp2
        go_roundw
        case rel => exact ⟨j + 1, A1, L2, X4, by first | rfl | simp, by first | rfl | (simp; done) | (simp; have := hA1i; omega), by first | rfl | simp, HL2.out.1, HX4.out, HN.out.2.1, HN.out.1, HN.out.2.2, HB6.out⟩
        case measure => have := HL2.out.2; simp [szOf]; omega
end Go.Proofs.YtglkkeelocdanaaGreatDoor
