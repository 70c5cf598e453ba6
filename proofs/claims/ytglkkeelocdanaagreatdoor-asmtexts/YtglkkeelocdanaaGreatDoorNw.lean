/- What is proved here: chapter 8's examples, and the walk of AsmLines. -/
import Derived.Test.YtglkkeelocdanaaGreatDoorNv
import Derived.Test.YtglkkeelocdanaaGreatDoorNs
import Derived.Test.YtglkkeelocdanaaGreatDoorEach
namespace Go.Proofs.YtglkkeelocdanaaGreatDoor
open Go.RowKit
set_option linter.unusedVariables false
set_option linter.unusedSimpArgs false
set_option maxRecDepth 100000
theorem it (n : Nat) (h : n < 10) : Lib.itoa (n : Int) = [UInt8.ofNat (48 + n)] := by
  unfold Lib.itoa
  rw [if_neg (by omega), Int.toNat_natCast]
  exact dec_one n h
theorem it2 (n : Nat) (h : 10 ≤ n) (h' : n < 100) : Lib.itoa (n : Int) = [UInt8.ofNat (48 + n / 10), UInt8.ofNat (48 + n % 10)] := by
  unfold Lib.itoa
  rw [if_neg (by omega), Int.toNat_natCast, dec_step n h, dec_one (n / 10) (by omega)]
  rfl
theorem itm4 : Lib.itoa (-4) = [45, 52] := by
  unfold Lib.itoa
  rw [if_pos (by decide), show (-4 : Int).natAbs = 4 from rfl, dec_one 4 (by decide)]
  rfl
def lwI : In := ⟨⟨#[108, 119]⟩, 29, 8, 0, 0, 65532⟩
def adI : In := ⟨⟨#[97, 100, 100, 117]⟩, 4, 5, 2, 0, 0⟩
theorem lw_ok : isIns lwI = true ∧ formL8 lwI.name = [116, 109] := by decide +kernel
theorem ad_ok : isIns adI = true ∧ formL8 adI.name = [100, 115, 116] := by decide +kernel
theorem lw_line : lineL lwI = [108, 119, 32, 36, 56, 44, 32, 45, 52, 40, 36, 50, 57, 41] := by
  unfold lineL tailL
  rw [lw_ok.1, lw_ok.2]
  have e : partsL (patL lwI.name.toList [116, 109] (lwI.imm == 0)) = [[32, 36], [116], [44, 32], [105], [40, 36], [115], [41]] := by decide +kernel
  rw [e]
  have h8 : Lib.itoa 8 = [56] := it 8 (by decide)
  have h29 : Lib.itoa 29 = [50, 57] := it2 29 (by decide) (by decide)
  have hs : sgn 65532 = -4 := by decide
  have hn : lwI.name.toList = [108, 119] := by decide +kernel
  simp [toldL, lwI, h8, h29, hs, itm4] at hn ⊢
theorem ad_line : lineL adI = [97, 100, 100, 117, 32, 36, 50, 44, 32, 36, 52, 44, 32, 36, 53] := by
  unfold lineL tailL
  rw [ad_ok.1, ad_ok.2]
  have e : partsL (patL adI.name.toList [100, 115, 116] (adI.imm == 0)) = [[32, 36], [100], [44, 32, 36], [115], [44, 32, 36], [116]] := by decide +kernel
  rw [e]
  have h2 : Lib.itoa 2 = [50] := it 2 (by decide)
  have h4 : Lib.itoa 4 = [52] := it 4 (by decide)
  have h5 : Lib.itoa 5 = [53] := it 5 (by decide)
  have hn : adI.name.toList = [97, 100, 100, 117] := by decide +kernel
  simp [toldL, adI, h2, h4, h5] at hn ⊢
theorem lw_par : parI [108, 119, 32, 36, 56, 44, 32, 45, 52, 40, 36, 50, 57, 41] = lwI ∧ parE [108, 119, 32, 36, 56, 44, 32, 45, 52, 40, 36, 50, 57, 41] = 0 := by
  have h : insR [108, 119, 32, 36, 56, 44, 32, 45, 52, 40, 36, 50, 57, 41] = some lwI := (insR_iff _ _).2 ⟨lw_ok.1, lw_line⟩
  unfold parI parE
  rw [h]
  exact ⟨rfl, rfl⟩
theorem ff_list : lstL [255] 0 = [48, 48, 48, 48, 48, 48, 48, 48, 58, 32, 46, 119, 111, 114, 100, 32, 48, 120, 102, 102, 10] := by
  unfold lstL outL
  have e : ckN [255] = 1 := by decide
  rw [e]
  have e2 : (⟨(ck [255] 0).toArray⟩ : ByteArray) = ⟨#[255]⟩ := by decide +kernel
  have e3 : wdL ⟨#[255]⟩ = [46, 119, 111, 114, 100, 32, 48, 120, 102, 102] := by
    unfold wdL
    rw [if_neg (by rw [show decide (4 ≤ (⟨#[255]⟩ : ByteArray).size) = false from by decide]; simp)]
    decide +kernel
  have e4 : hexL (W.putBeS ((0 + 4 * 0) % 4294967296) 4).toList = [48, 48, 48, 48, 48, 48, 48, 48] := by decide +kernel
  simp only [List.range_one, List.flatMap_cons, List.flatMap_nil, List.append_nil]
  unfold lnL
  rw [e2, e3, e4]
  rfl
set_option maxHeartbeats 1000000 in
theorem awake6 (w : World) (hl : Lw w) : Calls Tryz.prog 6 #[] w fun e w' => e = .returned (.bool true) ∧ Below w.heap.size w w' := by
  have K7 := parse7 [108, 119, 32, 36, 56, 44, 32, 45, 52, 40, 36, 50, 57, 41] (by decide) w hl
  rw [lw_par.1, lw_par.2] at K7
  have K9 : Hid (∀ w', Below w.heap.size w w' → Calls Tryz.prog 9 #[.agg #[.string ⟨#[97, 100, 100, 117]⟩, .int .i64 4, .int .i64 5, .int .i64 2, .int .i64 0, .int .u32 0]] w' fun e w'' => e = .returned (.string ⟨#[97, 100, 100, 117, 32, 36, 50, 44, 32, 36, 52, 44, 32, 36, 53]⟩) ∧ Below w'.heap.size w' w'') := fun w' h => by
    have := line9 adI (by decide) w' (hl.keep h)
    rw [ad_line] at this
    exact this
  have K13 : Hid (∀ w', Below w.heap.size w w' → Calls Tryz.prog 13 #[.string ⟨#[255]⟩, .int .u32 0] w' fun e w'' => e = .returned (.string ⟨#[48, 48, 48, 48, 48, 48, 48, 48, 58, 32, 46, 119, 111, 114, 100, 32, 48, 120, 102, 102, 10]⟩) ∧ Below w'.heap.size w' w'') := fun w' h => by
    have := listing13 [255] (by decide) 0 (by decide) w' (hl.keep h)
    rw [ff_list] at this
    exact this
  have heq : ∀ wx, (binOp .eql 24 (.agg #[.string ⟨#[108, 119]⟩, .int .i64 29, .int .i64 8, .int .i64 0, .int .i64 0, .int .u32 65532]) (.agg #[.string ⟨#[108, 119]⟩, .int .i64 29, .int .i64 8, .int .i64 0, .int .i64 0, .int .u32 65532])).run Tryz.prog wx = .ok (.bool true) wx := fun wx => by
    have := eq24 lwI lwI wx
    rw [inEq_refl] at this
    exact this
  have K7 : Calls Tryz.prog 7 #[.string ⟨#[108, 119, 32, 36, 56, 44, 32, 45, 52, 40, 36, 50, 57, 41]⟩] w fun e w' => e = .returned (.tuple #[.agg #[.string ⟨#[108, 119]⟩, .int .i64 29, .int .i64 8, .int .i64 0, .int .i64 0, .int .u32 65532], .int .i64 0]) ∧ Below w.heap.size w w' := K7
  clear hl
  go_enter Tryz.func6, Tryz.ntmps6
  go_wp2_with fail
  refine K7.mono ?_
  rintro e w1 ⟨rfl, hb1⟩
  clear K7
  have hb2 : Below w.heap.size w (w1.alloc (.cells #[.string ⟨#[108, 119]⟩, .int .i64 29, .int .i64 8, .int .i64 0, .int .i64 0, .int .u32 65532] 24)) := hb1.alloc hb1.size _
  have K9 := K9.out _ hb2
  have i2 := In6.new lwI w1
  have HB2 : Hid _ := hb2
  clear hb1 hb2
  go_wp2_with fail
  refine K9.mono ?_
  rintro e w3 ⟨rfl, hb3⟩
  have i3 := i2.keep hb3
  have HB3 : Hid (Below w.heap.size w w3) := below_tr HB2.out hb3
  obtain ⟨c0, c1, c2, c3, c4, c5⟩ := i3.cells
  have d0 : w3.cell? ⟨w1.heap.size, 0, none⟩ = some (.string ⟨#[108, 119]⟩) := c0
  have d1 : w3.cell? ⟨w1.heap.size, 1, none⟩ = some (.int .i64 29) := c1
  have d2 : w3.cell? ⟨w1.heap.size, 2, none⟩ = some (.int .i64 8) := c2
  have d3 : w3.cell? ⟨w1.heap.size, 3, none⟩ = some (.int .i64 0) := c3
  have d4 : w3.cell? ⟨w1.heap.size, 4, none⟩ = some (.int .i64 0) := c4
  have d5 : w3.cell? ⟨w1.heap.size, 5, none⟩ = some (.int .u32 65532) := c5
  have K13 := K13.out w3 HB3.out
  clear K9 i2 i3 hb3 c0 c1 c2 c3 c4 c5
  go_wp2_with fail
  refine K13.mono ?_
  rintro e w4 ⟨rfl, hb4⟩
  go_wp2
  go_ret
  exact ⟨by first | rfl | (simp; done) | decide, below_tr HB3.out hb4⟩
set_option maxHeartbeats 2000000 in
theorem lines_walk (i : In) (hi : i.imm < 4294967296) (S : ByteArray) (w : World) (hl : Lw w) : Calls Tryz.prog 3 #[i.val, .string S] w fun e w' => e = .returned (.bool true) ∧ Below w.heap.size w w' := by
  obtain ⟨W, hW⟩ : ∃ z, w.alloc (.cells #[.string i.name, .int .i64 i.rs, .int .i64 i.rt, .int .i64 i.rd, .int .i64 i.sa, .int .u32 (i.imm : Int)] 24) = z := ⟨_, rfl⟩
  have hb : Below w.heap.size w W := by rw [← hW]; exact (Below.refl _ _).alloc (Nat.le_refl _) _
  have iw : In6 i w.heap.size W := by rw [← hW]; exact In6.new i w
  have K6 : Hid (∀ w', Below w.heap.size w w' → Calls Tryz.prog 6 #[] w' fun e w'' => e = .returned (.bool true) ∧ Below w'.heap.size w' w'') := fun w' h => awake6 w' (hl.keep h)
  have HB : Hid (Below w.heap.size w W ∧ In6 i w.heap.size W) := ⟨hb, iw⟩
  by_cases h300 : S.size ≤ 300
  · obtain ⟨l, hlS⟩ : ∃ z, z = S.toList := ⟨_, rfl⟩
    have hll : l.length ≤ 100000 := by rw [hlS, bt_len]; omega
    have hSl : (⟨l.toArray⟩ : ByteArray) = S := by rw [hlS]; exact ba_list S
    have K7 := parse7 l hll W (hl.keep hb)
    have K8 : Hid (∀ w', Calls Tryz.prog 8 #[.string S] w' fun e w'' => e = .returned (.tuple #[(parI l).val, .int .i64 (parE l)]) ∧ Below w'.heap.size w' w'') := fun w' => by rw [← hSl]; exact rparse8 l hll w'
    rw [hSl] at K7
    obtain ⟨LN, hLN⟩ : ∃ z : ByteArray, z = ⟨(lineL i).toArray⟩ := ⟨_, rfl⟩
    have K9 : Hid (∀ w', Below w.heap.size w w' → Calls Tryz.prog 9 #[.agg #[.string i.name, .int .i64 i.rs, .int .i64 i.rt, .int .i64 i.rd, .int .i64 i.sa, .int .u32 (i.imm : Int)]] w' fun e w'' => e = .returned (.string LN) ∧ Below w'.heap.size w' w'') := fun w' h => by rw [hLN]; exact line9 i hi w' (hl.keep h)
    have K10 : Hid (∀ w', Calls Tryz.prog 10 #[.agg #[.string i.name, .int .i64 i.rs, .int .i64 i.rt, .int .i64 i.rd, .int .i64 i.sa, .int .u32 (i.imm : Int)]] w' fun e w'' => e = .returned (.string LN) ∧ Below w'.heap.size w' w'') := fun w' => by rw [hLN]; exact rline10 i hi w'
    generalize parI l = J at K7 K8
    generalize parE l = ee at K7 K8
    have heq : ∀ wx, (binOp .eql 24 (.agg #[.string J.name, .int .i64 J.rs, .int .i64 J.rt, .int .i64 J.rd, .int .i64 J.sa, .int .u32 (J.imm : Int)]) (.agg #[.string J.name, .int .i64 J.rs, .int .i64 J.rt, .int .i64 J.rd, .int .i64 J.sa, .int .u32 (J.imm : Int)])).run Tryz.prog wx = .ok (.bool true) wx := fun wx => by
      have := eq24 J J wx
      rw [inEq_refl] at this
      exact this
    have h3 : ¬ (300 : Int) < (S.size : Int) := by omega
    have h4 : decide ((300 : Int) < (S.size : Int)) = false := decide_eq_false h3
    unfold In.val at K7 K8 ⊢
    clear hLN hlS hSl hll hb iw hl hi
    go_enter Tryz.func3, Tryz.ntmps3
    go_wp2_with fail
    refine K7.mono ?_
    rintro e w1 ⟨rfl, hb1⟩
    clear K7
    obtain ⟨W2, hW2⟩ : ∃ z, w1.alloc (.cells #[.string J.name, .int .i64 J.rs, .int .i64 J.rt, .int .i64 J.rd, .int .i64 J.sa, .int .u32 (J.imm : Int)] 24) = z := ⟨_, rfl⟩
    have hb2 : Below w1.heap.size w1 W2 := by rw [← hW2]; exact (Below.refl _ _).alloc (Nat.le_refl _) _
    have i2 : In6 J w1.heap.size W2 := by rw [← hW2]; exact In6.new J w1
    obtain ⟨B5, hB5⟩ : ∃ z, w1.heap.size = z := ⟨_, rfl⟩
    rw [hB5] at i2
    have H2 : Hid (Below w.heap.size w W2 ∧ In6 i w.heap.size W2 ∧ In6 J B5 W2) := ⟨below_tr HB.out.1 (below_tr hb1 hb2), HB.out.2.keep (below_tr hb1 hb2), i2⟩
    have KK := K8.out W2
    clear hb1 hb2 i2 K8
    go_wp2_with fail
    refine KK.mono ?_
    rintro e w3 ⟨rfl, hb3⟩
    obtain ⟨W4, hW4⟩ : ∃ z, w3.alloc (.cells #[.string J.name, .int .i64 J.rs, .int .i64 J.rt, .int .i64 J.rd, .int .i64 J.sa, .int .u32 (J.imm : Int)] 24) = z := ⟨_, rfl⟩
    have hb4 : Below w3.heap.size w3 W4 := by rw [← hW4]; exact (Below.refl _ _).alloc (Nat.le_refl _) _
    have i4 : In6 J w3.heap.size W4 := by rw [← hW4]; exact In6.new J w3
    obtain ⟨B7, hB7⟩ : ∃ z, w3.heap.size = z := ⟨_, rfl⟩
    rw [hB7] at i4
    have hb5 := below_tr hb3 hb4
    obtain ⟨d0, d1, d2, d3, d4, d5⟩ := (H2.out.2.1.keep hb5).cells
    obtain ⟨p0, p1, p2, p3, p4, p5⟩ := (H2.out.2.2.keep hb5).cells
    obtain ⟨r0, r1, r2, r3, r4, r5⟩ := i4.cells
    have HBX : Hid (Below w.heap.size w W4) := below_tr H2.out.1 hb5
    clear KK hb3 hb4 hb5 i4
    go_wp2
    try rw [hW4]
    try rw [hB7]
    try rw [hB5]
    clear hW4 hB7 hB5 hW2 hW
    refine wp_region_slots (R := Ext) [⟨23, fun v _ => v = .agg #[.string i.name, .int .i64 i.rs, .int .i64 i.rt, .int .i64 i.rd, .int .i64 i.sa, .int .u32 (i.imm : Int)], fun _ _ _ _ h => h⟩, ⟨24, fun v _ => v = .string LN, fun _ _ _ _ h => h⟩, ⟨25, fun v _ => v = .agg #[.string i.name, .int .i64 i.rs, .int .i64 i.rt, .int .i64 i.rd, .int .i64 i.sa, .int .u32 (i.imm : Int)], fun _ _ _ _ h => h⟩, ⟨26, fun v _ => v = .string LN, fun _ _ _ _ h => h⟩, ⟨27, fun v _ => v = .bool true, fun _ _ _ _ h => h⟩, ⟨28, fun v _ => v = .bool true, fun _ _ _ _ h => h⟩, ⟨29, fun v _ => v = .agg #[.string J.name, .int .i64 J.rs, .int .i64 J.rt, .int .i64 J.rd, .int .i64 J.sa, .int .u32 (J.imm : Int)], fun _ _ _ _ h => h⟩, ⟨30, fun v _ => v = .agg #[.string J.name, .int .i64 J.rs, .int .i64 J.rt, .int .i64 J.rd, .int .i64 J.sa, .int .u32 (J.imm : Int)], fun _ _ _ _ h => h⟩, ⟨31, fun v _ => v = .bool true, fun _ _ _ _ h => h⟩, ⟨32, fun v _ => v = .bool true, fun _ _ _ _ h => h⟩, ⟨33, fun v _ => v = .bool true, fun _ _ _ _ h => h⟩, ⟨34, fun v _ => v = .int .i64 ee, fun _ _ _ _ h => h⟩, ⟨35, fun v _ => v = .int .i64 ee, fun _ _ _ _ h => h⟩, ⟨36, fun v _ => v = .bool true, fun _ _ _ _ h => h⟩, ⟨37, fun v _ => v = .bool true, fun _ _ _ _ h => h⟩, ⟨38, fun v _ => v = .bool true, fun _ _ _ _ h => h⟩, ⟨39, fun v _ => v = .bool true, fun _ _ _ _ h => h⟩, ⟨40, fun v _ => v = .bool true, fun _ _ _ _ h => h⟩, ⟨4, fun v _ => v = .bool true, fun _ _ _ _ h => h⟩] _ (by kernel_rfl) rfl (by kernel_rfl) (Below.drew (Below.refl _ _)) (fun _ _ _ h1 h2 => below_tr h1 h2) (fun QQ => ⟨?_, ?_, ?_, ?_, ?_, ?_, ?_, ?_, ?_, ?_, ?_, ?_, ?_, ?_, ?_, ?_, ?_, ?_, ?_, trivial⟩) (fun f wy hR hf => ?_)
    · intro A wx hR hout hdep K hK
      have h2 : A.tmps[2]?.getD undef = .pointer (some ⟨w.heap.size, 0, none⟩) := hout 2 (by kernel_rfl)
      refine if_yes (by kernel_rfl) ?_
      have d0 := keep_cell hR d0
      have d1 := keep_cell hR d1
      have d2 := keep_cell hR d2
      have d3 := keep_cell hR d3
      have d4 := keep_cell hR d4
      have d5 := keep_cell hR d5
      have p0 := keep_cell hR p0
      have p1 := keep_cell hR p1
      have p2 := keep_cell hR p2
      have p3 := keep_cell hR p3
      have p4 := keep_cell hR p4
      have p5 := keep_cell hR p5
      have r0 := keep_cell hR r0
      have r1 := keep_cell hR r1
      have r2 := keep_cell hR r2
      have r3 := keep_cell hR r3
      have r4 := keep_cell hR r4
      have r5 := keep_cell hR r5
      simp [go_sem, h2, d0, d1, d2, d3, d4, d5, p0, p1, p2, p3, p4, p5, r0, r1, r2, r3, r4, r5, heq]
      exact hK.out _ _ (Below.refl _ _) rfl
    · intro A wx hR hout hdep K hK
      have h23 : A.tmps[23]?.getD undef = .agg #[.string i.name, .int .i64 i.rs, .int .i64 i.rt, .int .i64 i.rd, .int .i64 i.sa, .int .u32 (i.imm : Int)] := hdep 23 (by kernel_rfl)
      refine if_yes (by kernel_rfl) ?_
      simp [go_sem, h23, heq]
      refine (K9.out wx (below_tr HBX.out hR)).mono ?_
      rintro e wG ⟨rfl, hbG⟩
      exact hK.out _ _ hbG rfl
    · intro A wx hR hout hdep K hK
      have h2 : A.tmps[2]?.getD undef = .pointer (some ⟨w.heap.size, 0, none⟩) := hout 2 (by kernel_rfl)
      refine if_yes (by kernel_rfl) ?_
      have d0 := keep_cell hR d0
      have d1 := keep_cell hR d1
      have d2 := keep_cell hR d2
      have d3 := keep_cell hR d3
      have d4 := keep_cell hR d4
      have d5 := keep_cell hR d5
      have p0 := keep_cell hR p0
      have p1 := keep_cell hR p1
      have p2 := keep_cell hR p2
      have p3 := keep_cell hR p3
      have p4 := keep_cell hR p4
      have p5 := keep_cell hR p5
      have r0 := keep_cell hR r0
      have r1 := keep_cell hR r1
      have r2 := keep_cell hR r2
      have r3 := keep_cell hR r3
      have r4 := keep_cell hR r4
      have r5 := keep_cell hR r5
      simp [go_sem, h2, d0, d1, d2, d3, d4, d5, p0, p1, p2, p3, p4, p5, r0, r1, r2, r3, r4, r5, heq]
      exact hK.out _ _ (Below.refl _ _) rfl
    · intro A wx hR hout hdep K hK
      have h25 : A.tmps[25]?.getD undef = .agg #[.string i.name, .int .i64 i.rs, .int .i64 i.rt, .int .i64 i.rd, .int .i64 i.sa, .int .u32 (i.imm : Int)] := hdep 25 (by kernel_rfl)
      refine if_yes (by kernel_rfl) ?_
      simp [go_sem, h25, heq]
      refine (K10.out wx).mono ?_
      rintro e wG ⟨rfl, hbG⟩
      exact hK.out _ _ hbG rfl
    · intro A wx hR hout hdep K hK
      have h24 : A.tmps[24]?.getD undef = .string LN := hdep 24 (by kernel_rfl)
      have h26 : A.tmps[26]?.getD undef = .string LN := hdep 26 (by kernel_rfl)
      refine if_yes (by kernel_rfl) ?_
      simp [go_sem, h24, h26, heq]
      exact hK.out _ _ (Below.refl _ _) rfl
    · intro A wx hR hout hdep K hK
      have h27 : A.tmps[27]?.getD undef = .bool true := hdep 27 (by kernel_rfl)
      refine if_yes (by kernel_rfl) ?_
      simp [go_sem, h27, heq]
      exact hK.out _ _ (Below.refl _ _) rfl
    · intro A wx hR hout hdep K hK
      have h5 : A.tmps[5]?.getD undef = .pointer (some ⟨B5, 0, none⟩) := hout 5 (by kernel_rfl)
      have h28 : A.tmps[28]?.getD undef = .bool true := hdep 28 (by kernel_rfl)
      refine if_yes ((wanted_is (j := 5) (b := true) (by kernel_rfl) (by kernel_rfl) h28).trans rfl) ?_
      have d0 := keep_cell hR d0
      have d1 := keep_cell hR d1
      have d2 := keep_cell hR d2
      have d3 := keep_cell hR d3
      have d4 := keep_cell hR d4
      have d5 := keep_cell hR d5
      have p0 := keep_cell hR p0
      have p1 := keep_cell hR p1
      have p2 := keep_cell hR p2
      have p3 := keep_cell hR p3
      have p4 := keep_cell hR p4
      have p5 := keep_cell hR p5
      have r0 := keep_cell hR r0
      have r1 := keep_cell hR r1
      have r2 := keep_cell hR r2
      have r3 := keep_cell hR r3
      have r4 := keep_cell hR r4
      have r5 := keep_cell hR r5
      simp [go_sem, h5, d0, d1, d2, d3, d4, d5, p0, p1, p2, p3, p4, p5, r0, r1, r2, r3, r4, r5, heq]
      exact hK.out _ _ (Below.refl _ _) rfl
    · intro A wx hR hout hdep K hK
      have h7 : A.tmps[7]?.getD undef = .pointer (some ⟨B7, 0, none⟩) := hout 7 (by kernel_rfl)
      have h28 : A.tmps[28]?.getD undef = .bool true := hdep 28 (by kernel_rfl)
      refine if_yes ((wanted_is (j := 5) (b := true) (by kernel_rfl) (by kernel_rfl) h28).trans rfl) ?_
      have d0 := keep_cell hR d0
      have d1 := keep_cell hR d1
      have d2 := keep_cell hR d2
      have d3 := keep_cell hR d3
      have d4 := keep_cell hR d4
      have d5 := keep_cell hR d5
      have p0 := keep_cell hR p0
      have p1 := keep_cell hR p1
      have p2 := keep_cell hR p2
      have p3 := keep_cell hR p3
      have p4 := keep_cell hR p4
      have p5 := keep_cell hR p5
      have r0 := keep_cell hR r0
      have r1 := keep_cell hR r1
      have r2 := keep_cell hR r2
      have r3 := keep_cell hR r3
      have r4 := keep_cell hR r4
      have r5 := keep_cell hR r5
      simp [go_sem, h7, d0, d1, d2, d3, d4, d5, p0, p1, p2, p3, p4, p5, r0, r1, r2, r3, r4, r5, heq]
      exact hK.out _ _ (Below.refl _ _) rfl
    · intro A wx hR hout hdep K hK
      have h29 : A.tmps[29]?.getD undef = .agg #[.string J.name, .int .i64 J.rs, .int .i64 J.rt, .int .i64 J.rd, .int .i64 J.sa, .int .u32 (J.imm : Int)] := hdep 29 (by kernel_rfl)
      have h30 : A.tmps[30]?.getD undef = .agg #[.string J.name, .int .i64 J.rs, .int .i64 J.rt, .int .i64 J.rd, .int .i64 J.sa, .int .u32 (J.imm : Int)] := hdep 30 (by kernel_rfl)
      have h28 : A.tmps[28]?.getD undef = .bool true := hdep 28 (by kernel_rfl)
      refine if_yes ((wanted_is (j := 5) (b := true) (by kernel_rfl) (by kernel_rfl) h28).trans rfl) ?_
      simp [go_sem, h29, h30, heq]
      exact hK.out _ _ (Below.refl _ _) rfl
    · intro A wx hR hout hdep K hK
      have h28 : A.tmps[28]?.getD undef = .bool true := hdep 28 (by kernel_rfl)
      have h31 : A.tmps[31]?.getD undef = .bool true := hdep 31 (by kernel_rfl)
      refine if_yes (by kernel_rfl) ?_
      simp [go_sem, h28, h31, heq]
      exact hK.out _ _ (Below.refl _ _) rfl
    · intro A wx hR hout hdep K hK
      have h32 : A.tmps[32]?.getD undef = .bool true := hdep 32 (by kernel_rfl)
      refine if_yes (by kernel_rfl) ?_
      simp [go_sem, h32, heq]
      exact hK.out _ _ (Below.refl _ _) rfl
    · intro A wx hR hout hdep K hK
      have h6 : A.tmps[6]?.getD undef = .int .i64 ee := hout 6 (by kernel_rfl)
      have h33 : A.tmps[33]?.getD undef = .bool true := hdep 33 (by kernel_rfl)
      refine if_yes ((wanted_is (j := 10) (b := true) (by kernel_rfl) (by kernel_rfl) h33).trans rfl) ?_
      simp [go_sem, h6, heq]
      exact hK.out _ _ (Below.refl _ _) rfl
    · intro A wx hR hout hdep K hK
      have h8 : A.tmps[8]?.getD undef = .int .i64 ee := hout 8 (by kernel_rfl)
      have h33 : A.tmps[33]?.getD undef = .bool true := hdep 33 (by kernel_rfl)
      refine if_yes ((wanted_is (j := 10) (b := true) (by kernel_rfl) (by kernel_rfl) h33).trans rfl) ?_
      simp [go_sem, h8, heq]
      exact hK.out _ _ (Below.refl _ _) rfl
    · intro A wx hR hout hdep K hK
      have h34 : A.tmps[34]?.getD undef = .int .i64 ee := hdep 34 (by kernel_rfl)
      have h35 : A.tmps[35]?.getD undef = .int .i64 ee := hdep 35 (by kernel_rfl)
      have h33 : A.tmps[33]?.getD undef = .bool true := hdep 33 (by kernel_rfl)
      refine if_yes ((wanted_is (j := 10) (b := true) (by kernel_rfl) (by kernel_rfl) h33).trans rfl) ?_
      simp [go_sem, h34, h35, heq]
      exact hK.out _ _ (Below.refl _ _) rfl
    · intro A wx hR hout hdep K hK
      have h33 : A.tmps[33]?.getD undef = .bool true := hdep 33 (by kernel_rfl)
      have h36 : A.tmps[36]?.getD undef = .bool true := hdep 36 (by kernel_rfl)
      refine if_yes (by kernel_rfl) ?_
      simp [go_sem, h33, h36, heq]
      exact hK.out _ _ (Below.refl _ _) rfl
    · intro A wx hR hout hdep K hK
      have h37 : A.tmps[37]?.getD undef = .bool true := hdep 37 (by kernel_rfl)
      refine if_yes (by kernel_rfl) ?_
      simp [go_sem, h37, heq]
      exact hK.out _ _ (Below.refl _ _) rfl
    · intro A wx hR hout hdep K hK
      have h38 : A.tmps[38]?.getD undef = .bool true := hdep 38 (by kernel_rfl)
      refine if_yes ((wanted_is (j := 15) (b := true) (by kernel_rfl) (by kernel_rfl) h38).trans rfl) ?_
      simp [go_sem, heq]
      refine (K6.out wx (below_tr HBX.out hR)).mono ?_
      rintro e wG ⟨rfl, hbG⟩
      exact hK.out _ _ hbG rfl
    · intro A wx hR hout hdep K hK
      have h38 : A.tmps[38]?.getD undef = .bool true := hdep 38 (by kernel_rfl)
      have h39 : A.tmps[39]?.getD undef = .bool true := hdep 39 (by kernel_rfl)
      refine if_yes (by kernel_rfl) ?_
      simp [go_sem, h38, h39, heq]
      exact hK.out _ _ (Below.refl _ _) rfl
    · intro A wx hR hout hdep K hK
      have h40 : A.tmps[40]?.getD undef = .bool true := hdep 40 (by kernel_rfl)
      refine if_yes (by kernel_rfl) ?_
      simp [go_sem, h40, heq]
      exact hK.out _ _ (Below.refl _ _) rfl
    have hv : f 4 = .bool true := hf 4 (by kernel_rfl)
    simp only [putSl, Act.put, List.setIfInBounds_toArray, List.set_cons_zero, List.set_cons_succ, hv]
    have HB9 : Hid (Below w.heap.size w wy) := below_tr HBX.out hR
    clear hf hv hR
    go_wp2
    go_ret
    exact ⟨rfl, HB9.out⟩
  · have h3 : (300 : Int) < (S.size : Int) := by omega
    have KA := K6.out W hb
    unfold In.val
    clear hb iw hl hi
    go_enter Tryz.func3, Tryz.ntmps3
    go_wp2_with fail
    refine KA.mono ?_
    rintro e w2 ⟨rfl, hb2⟩
    go_wp2
    go_ret
    exact ⟨rfl, below_tr HB.out.1 hb2⟩
end Go.Proofs.YtglkkeelocdanaaGreatDoor
