/- What is proved here: the document's numbers: fields and shifts. -/
import Derived.Test.YtogokbefpgaciaaDoorAp
import Derived.Test.YtogokbefpgaciaaDoorAf
namespace Go.Proofs.YtogokbefpgaciaaDoor
open Go.RowKit
set_option linter.unusedVariables false
set_option linter.unusedSimpArgs false
set_option maxRecDepth 100000
theorem and_shift (t : Nat) : (t &&& 4278255360) / 256 = t / 256 &&& 16711935 := by
  apply Nat.eq_of_testBit_eq
  intro i
  rw [show (256 : Nat) = 2 ^ 8 from rfl, Nat.testBit_div_two_pow, Nat.testBit_and, Nat.testBit_and, Nat.testBit_div_two_pow, show (4278255360 : Nat) = 16711935 * 2 ^ 8 from rfl, Nat.testBit_mul_two_pow]
  simp
theorem rws_is (v : Nat) (hv : v < 4294967296) : bits .or .u32 (bits .and .u32 (v : Int) 4278255360 / 256) (bits .and .u32 (v : Int) 16711935 * 256 % 4294967296) = ((((v &&& 16711935) * 256 % 4294967296) ||| (v / 256 &&& 16711935) : Nat) : Int) := by
  have a1 : bits .and .u32 (v : Int) 16711935 = ((v &&& 16711935 : Nat) : Int) := and_u32 v 16711935 hv (by decide)
  have a2 : bits .and .u32 (v : Int) 4278255360 = ((v &&& 4278255360 : Nat) : Int) := and_u32 v 4278255360 hv (by decide)
  have l2 : v / 256 &&& 16711935 ≤ 16711935 := Nat.and_le_right
  rw [a1, a2, show (((v &&& 4278255360 : Nat) : Int) / 256) = (((v &&& 4278255360) / 256 : Nat) : Int) from by omega, and_shift]
  rw [show (((v &&& 16711935 : Nat) : Int) * 256 % 4294967296) = (((v &&& 16711935) * 256 % 4294967296 : Nat) : Int) from by omega]
  rw [or_u32 _ _ (by omega) (by omega), Nat.or_comm]
set_option maxHeartbeats 1000000 in
theorem f40_mul (rs rt rd sa : Int) (imm s t : Nat) (hi : imm < 4294967296) (hs : s < 4294967296) (ht : t < 4294967296) (hsa : 0 ≤ sa ∧ sa < 32) (hrd : 0 ≤ rd ∧ rd < 32) (hle : sa ≤ rd ∨ True) (w : World) : Calls Tryd.prog 40 #[.agg #[.string ⟨#[109, 117, 108]⟩, .int .i64 rs, .int .i64 rt, .int .i64 rd, .int .i64 sa, .int .u32 (imm : Int)], .int .u32 (s : Int), .int .u32 (t : Int)] w fun e w' => e = .returned (.int .u32 ((s * t % 4294967296) : Nat)) ∧ Below w.heap.size w w' := by
  obtain ⟨W, hW, hb, hz, d0, d1, d2, d3, d4, d5⟩ := box6 w (.string ⟨#[109, 117, 108]⟩) (.int .i64 rs) (.int .i64 rt) (.int .i64 rd) (.int .i64 sa) (.int .u32 (imm : Int)) 24
  have HB : Hid (Below w.heap.size w W) := hb
  have h : Hid ((s : Int) * (t : Int) % 4294967296 = ((s * t % 4294967296 : Nat) : Int)) := by
    show _ = _; simp
  clear hb hz hi hs ht hle
  go_enter Tryd.func40, Tryd.ntmps40
  go_wp2
  go_ret
  exact ⟨ret_u32 h.out, HB.out⟩
set_option maxHeartbeats 1000000 in
theorem f40_wsbh (rs rt rd sa : Int) (imm s t : Nat) (hi : imm < 4294967296) (hs : s < 4294967296) (ht : t < 4294967296) (hsa : 0 ≤ sa ∧ sa < 32) (hrd : 0 ≤ rd ∧ rd < 32) (hle : sa ≤ rd ∨ True) (w : World) : Calls Tryd.prog 40 #[.agg #[.string ⟨#[119, 115, 98, 104]⟩, .int .i64 rs, .int .i64 rt, .int .i64 rd, .int .i64 sa, .int .u32 (imm : Int)], .int .u32 (s : Int), .int .u32 (t : Int)] w fun e w' => e = .returned (.int .u32 ((((t &&& 16711935) * 256 % 4294967296) ||| (t / 256 &&& 16711935)) : Nat)) ∧ Below w.heap.size w w' := by
  obtain ⟨W, hW, hb, hz, d0, d1, d2, d3, d4, d5⟩ := box6 w (.string ⟨#[119, 115, 98, 104]⟩) (.int .i64 rs) (.int .i64 rt) (.int .i64 rd) (.int .i64 sa) (.int .u32 (imm : Int)) 24
  have HB : Hid (Below w.heap.size w W) := hb
  have h : Hid (bits .or .u32 (bits .and .u32 (t : Int) 4278255360 / 256) (bits .and .u32 (t : Int) 16711935 * 256 % 4294967296) = ((((t &&& 16711935) * 256 % 4294967296) ||| (t / 256 &&& 16711935) : Nat) : Int)) := by
    exact rws_is t ht
  clear hb hz hi hs ht hle
  go_enter Tryd.func40, Tryd.ntmps40
  go_wp2
  go_ret
  exact ⟨ret_u32 h.out, HB.out⟩
set_option maxHeartbeats 1000000 in
theorem f40_seb (rs rt rd sa : Int) (imm s t : Nat) (hi : imm < 4294967296) (hs : s < 4294967296) (ht : t < 4294967296) (hsa : 0 ≤ sa ∧ sa < 32) (hrd : 0 ≤ rd ∧ rd < 32) (hle : sa ≤ rd ∨ True) (w : World) : Calls Tryd.prog 40 #[.agg #[.string ⟨#[115, 101, 98]⟩, .int .i64 rs, .int .i64 rt, .int .i64 rd, .int .i64 sa, .int .u32 (imm : Int)], .int .u32 (s : Int), .int .u32 (t : Int)] w fun e w' => e = .returned (.int .u32 ((Sw.sextI t 8) : Nat)) ∧ Below w.heap.size w w' := by
  obtain ⟨W, hW, hb, hz, d0, d1, d2, d3, d4, d5⟩ := box6 w (.string ⟨#[115, 101, 98]⟩) (.int .i64 rs) (.int .i64 rt) (.int .i64 rd) (.int .i64 sa) (.int .u32 (imm : Int)) 24
  have HB : Hid (Below w.heap.size w W) := hb
  have K := Sw.rsext_any t ht 8 W
  clear hb hz hi hs ht hle
  go_enter Tryd.func40, Tryd.ntmps40
  go_wp2_with fail
  refine K.mono ?_
  rintro e w3 ⟨rfl, rfl⟩
  go_wp2
  go_ret
  exact ⟨rfl, HB.out⟩
set_option maxHeartbeats 1000000 in
theorem f40_seh (rs rt rd sa : Int) (imm s t : Nat) (hi : imm < 4294967296) (hs : s < 4294967296) (ht : t < 4294967296) (hsa : 0 ≤ sa ∧ sa < 32) (hrd : 0 ≤ rd ∧ rd < 32) (hle : sa ≤ rd ∨ True) (w : World) : Calls Tryd.prog 40 #[.agg #[.string ⟨#[115, 101, 104]⟩, .int .i64 rs, .int .i64 rt, .int .i64 rd, .int .i64 sa, .int .u32 (imm : Int)], .int .u32 (s : Int), .int .u32 (t : Int)] w fun e w' => e = .returned (.int .u32 ((Sw.sextI t 16) : Nat)) ∧ Below w.heap.size w w' := by
  obtain ⟨W, hW, hb, hz, d0, d1, d2, d3, d4, d5⟩ := box6 w (.string ⟨#[115, 101, 104]⟩) (.int .i64 rs) (.int .i64 rt) (.int .i64 rd) (.int .i64 sa) (.int .u32 (imm : Int)) 24
  have HB : Hid (Below w.heap.size w W) := hb
  have K := Sw.rsext_any t ht 16 W
  clear hb hz hi hs ht hle
  go_enter Tryd.func40, Tryd.ntmps40
  go_wp2_with fail
  refine K.mono ?_
  rintro e w3 ⟨rfl, rfl⟩
  go_wp2
  go_ret
  exact ⟨rfl, HB.out⟩
set_option maxHeartbeats 1000000 in
theorem f40_clz (rs rt rd sa : Int) (imm s t : Nat) (hi : imm < 4294967296) (hs : s < 4294967296) (ht : t < 4294967296) (hsa : 0 ≤ sa ∧ sa < 32) (hrd : 0 ≤ rd ∧ rd < 32) (hle : sa ≤ rd ∨ True) (w : World) : Calls Tryd.prog 40 #[.agg #[.string ⟨#[99, 108, 122]⟩, .int .i64 rs, .int .i64 rt, .int .i64 rd, .int .i64 sa, .int .u32 (imm : Int)], .int .u32 (s : Int), .int .u32 (t : Int)] w fun e w' => e = .returned (.int .u32 ((leadN s 0) : Nat)) ∧ Below w.heap.size w w' := by
  obtain ⟨W, hW, hb, hz, d0, d1, d2, d3, d4, d5⟩ := box6 w (.string ⟨#[99, 108, 122]⟩) (.int .i64 rs) (.int .i64 rt) (.int .i64 rd) (.int .i64 sa) (.int .u32 (imm : Int)) 24
  have HB : Hid (Below w.heap.size w W) := hb
  have K := lead91 s 0 hs (by decide) W
  clear hb hz hi hs ht hle
  go_enter Tryd.func40, Tryd.ntmps40
  go_wp2_with fail
  refine K.mono ?_
  rintro e w3 ⟨rfl, rfl⟩
  go_wp2
  go_ret
  exact ⟨rfl, HB.out⟩
set_option maxHeartbeats 1000000 in
theorem f40_clo (rs rt rd sa : Int) (imm s t : Nat) (hi : imm < 4294967296) (hs : s < 4294967296) (ht : t < 4294967296) (hsa : 0 ≤ sa ∧ sa < 32) (hrd : 0 ≤ rd ∧ rd < 32) (hle : sa ≤ rd ∨ True) (w : World) : Calls Tryd.prog 40 #[.agg #[.string ⟨#[99, 108, 111]⟩, .int .i64 rs, .int .i64 rt, .int .i64 rd, .int .i64 sa, .int .u32 (imm : Int)], .int .u32 (s : Int), .int .u32 (t : Int)] w fun e w' => e = .returned (.int .u32 ((leadN s 1) : Nat)) ∧ Below w.heap.size w w' := by
  obtain ⟨W, hW, hb, hz, d0, d1, d2, d3, d4, d5⟩ := box6 w (.string ⟨#[99, 108, 111]⟩) (.int .i64 rs) (.int .i64 rt) (.int .i64 rd) (.int .i64 sa) (.int .u32 (imm : Int)) 24
  have HB : Hid (Below w.heap.size w W) := hb
  have K := lead91 s 1 hs (by decide) W
  clear hb hz hi hs ht hle
  go_enter Tryd.func40, Tryd.ntmps40
  go_wp2_with fail
  refine K.mono ?_
  rintro e w3 ⟨rfl, rfl⟩
  go_wp2
  go_ret
  exact ⟨rfl, HB.out⟩
set_option maxHeartbeats 1000000 in
theorem f40_ext (rs rt rd sa : Int) (imm s t : Nat) (hi : imm < 4294967296) (hs : s < 4294967296) (ht : t < 4294967296) (hsa : 0 ≤ sa ∧ sa < 32) (hrd : 0 ≤ rd ∧ rd < 32) (hle : sa ≤ rd ∨ True) (w : World) : Calls Tryd.prog 40 #[.agg #[.string ⟨#[101, 120, 116]⟩, .int .i64 rs, .int .i64 rt, .int .i64 rd, .int .i64 sa, .int .u32 (imm : Int)], .int .u32 (s : Int), .int .u32 (t : Int)] w fun e w' => e = .returned (.int .u32 ((s / 2 ^ sa.toNat &&& lowN (rd.toNat + 1)) : Nat)) ∧ Below w.heap.size w w' := by
  obtain ⟨g1, g2⟩ := hsa
  obtain ⟨n, rfl⟩ := Int.eq_ofNat_of_zero_le g1
  have hn : n < 32 := by omega
  have hn2 : min n 64 = n := by omega
  rw [Int.toNat_natCast]
  obtain ⟨g3, g4⟩ := hrd
  obtain ⟨r0, rfl⟩ := Int.eq_ofNat_of_zero_le g3
  rw [Int.toNat_natCast]
  have hwu : IntKind.u64.wrap (n : Int) = (n : Int) := by rw [IntKind.wrap_u64]; omega
  obtain ⟨W, hW, hb, hz, d0, d1, d2, d3, d4, d5⟩ := box6 w (.string ⟨#[101, 120, 116]⟩) (.int .i64 rs) (.int .i64 rt) (.int .i64 (r0 : Int)) (.int .i64 (n : Int)) (.int .u32 (imm : Int)) 24
  have HB : Hid (Below w.heap.size w W) := hb
  have hr1 : r0 + 1 ≤ 32 := by omega
  have hw : IntKind.i64.wrap ((r0 : Int) + 1) = ((r0 + 1 : Nat) : Int) := by rw [IntKind.wrap_i64]; omega
  have K1 : Hid (∀ wx, Calls Tryd.prog 90 #[.int .i64 ((r0 + 1 : Nat) : Int)] wx fun e w' => e = .returned (.int .u32 (lowN (r0 + 1) : Int)) ∧ w' = wx) := fun wx => mask90 _ hr1 wx
  have hlow := low_lt (r0 + 1) hr1
  have hdl : s / 2 ^ n < 4294967296 := Nat.lt_of_le_of_lt (Nat.div_le_self _ _) hs
  have hdiv : (s : Int) / 2 ^ n = ((s / 2 ^ n : Nat) : Int) := by simp
  have hand := and_u32 _ _ hdl hlow
  generalize lowN (r0 + 1) = lo at K1 hand ⊢
  generalize s / 2 ^ n = dv at hdiv hand ⊢
  generalize dv &&& lo = o at hand ⊢
  obtain ⟨r1, hr1'⟩ : ∃ r1, r1 = r0 + 1 := ⟨_, rfl⟩
  rw [← hr1'] at hw K1
  clear hlow hdl hr1 hr1' g1 g2 g3 g4
  clear hb hz hi hs ht hle
  go_enter Tryd.func40, Tryd.ntmps40
  go_wp2
  refine wp_region_slots (R := Ext) [⟨12, fun v _ => v = (.int .u32 (s : Int)), fun _ _ _ _ h => h⟩, ⟨13, fun v _ => v = (.pointer (some ⟨w.heap.size, 4, none⟩)), fun _ _ _ _ h => h⟩, ⟨14, fun v _ => v = (.int .i64 (n : Int)), fun _ _ _ _ h => h⟩, ⟨15, fun v _ => v = (.int .u64 (n : Int)), fun _ _ _ _ h => h⟩, ⟨16, fun v _ => v = (.int .u32 (dv : Int)), fun _ _ _ _ h => h⟩, ⟨17, fun v _ => v = (.pointer (some ⟨w.heap.size, 3, none⟩)), fun _ _ _ _ h => h⟩, ⟨18, fun v _ => v = (.int .i64 (r0 : Int)), fun _ _ _ _ h => h⟩, ⟨19, fun v _ => v = (.int .i64 (r1 : Int)), fun _ _ _ _ h => h⟩, ⟨20, fun v _ => v = (.int .u32 (lo : Int)), fun _ _ _ _ h => h⟩, ⟨21, fun v _ => v = (.int .u32 (o : Int)), fun _ _ _ _ h => h⟩, ⟨6, fun v _ => v = (.int .u32 (o : Int)), fun _ _ _ _ h => h⟩] _ (by kernel_rfl) rfl (by kernel_rfl) (Below.drew (Below.refl _ _)) (fun _ _ _ h1 h2 => below_tr h1 h2) (fun QQ => ⟨?_, ?_, ?_, ?_, ?_, ?_, ?_, ?_, ?_, ?_, ?_, trivial⟩) (fun f wy hR hf => ?_)
  · intro A wx hR hout hdep K hK
    have h1 : A.tmps[1]?.getD undef = (.int .u32 (s : Int)) := hout 1 (by kernel_rfl)
    refine if_yes (by kernel_rfl) ?_
    simp [go_sem, h1, hn2, hdiv, hw, hwu, hand]
    exact hK.out _ _ (Below.refl _ _) rfl
  · intro A wx hR hout hdep K hK
    have h3 : A.tmps[3]?.getD undef = (.pointer (some ⟨w.heap.size, 0, none⟩)) := hout 3 (by kernel_rfl)
    refine if_yes (by kernel_rfl) ?_
    simp [go_sem, h3, hn2, hdiv, hw, hwu, hand]
    exact hK.out _ _ (Below.refl _ _) rfl
  · intro A wx hR hout hdep K hK
    have h13 : A.tmps[13]?.getD undef = (.pointer (some ⟨w.heap.size, 4, none⟩)) := hdep 13 (by kernel_rfl)
    refine if_yes (by kernel_rfl) ?_
    have d0 := keep_cell hR d0
    have d1 := keep_cell hR d1
    have d2 := keep_cell hR d2
    have d3 := keep_cell hR d3
    have d4 := keep_cell hR d4
    have d5 := keep_cell hR d5
    simp [go_sem, h13, d0, d1, d2, d3, d4, d5, hn2, hdiv, hw, hwu, hand]
    exact hK.out _ _ (Below.refl _ _) rfl
  · intro A wx hR hout hdep K hK
    have h14 : A.tmps[14]?.getD undef = (.int .i64 (n : Int)) := hdep 14 (by kernel_rfl)
    refine if_yes (by kernel_rfl) ?_
    simp [go_sem, h14, hn2, hdiv, hw, hwu, hand]
    exact hK.out _ _ (Below.refl _ _) rfl
  · intro A wx hR hout hdep K hK
    have h12 : A.tmps[12]?.getD undef = (.int .u32 (s : Int)) := hdep 12 (by kernel_rfl)
    have h15 : A.tmps[15]?.getD undef = (.int .u64 (n : Int)) := hdep 15 (by kernel_rfl)
    refine if_yes (by kernel_rfl) ?_
    simp [go_sem, h12, h15, hn2, hdiv, hw, hwu, hand]
    exact hK.out _ _ (Below.refl _ _) rfl
  · intro A wx hR hout hdep K hK
    have h3 : A.tmps[3]?.getD undef = (.pointer (some ⟨w.heap.size, 0, none⟩)) := hout 3 (by kernel_rfl)
    refine if_yes (by kernel_rfl) ?_
    simp [go_sem, h3, hn2, hdiv, hw, hwu, hand]
    exact hK.out _ _ (Below.refl _ _) rfl
  · intro A wx hR hout hdep K hK
    have h17 : A.tmps[17]?.getD undef = (.pointer (some ⟨w.heap.size, 3, none⟩)) := hdep 17 (by kernel_rfl)
    refine if_yes (by kernel_rfl) ?_
    have d0 := keep_cell hR d0
    have d1 := keep_cell hR d1
    have d2 := keep_cell hR d2
    have d3 := keep_cell hR d3
    have d4 := keep_cell hR d4
    have d5 := keep_cell hR d5
    simp [go_sem, h17, d0, d1, d2, d3, d4, d5, hn2, hdiv, hw, hwu, hand]
    exact hK.out _ _ (Below.refl _ _) rfl
  · intro A wx hR hout hdep K hK
    have h18 : A.tmps[18]?.getD undef = (.int .i64 (r0 : Int)) := hdep 18 (by kernel_rfl)
    refine if_yes (by kernel_rfl) ?_
    simp [go_sem, h18, hn2, hdiv, hw, hwu, hand]
    exact hK.out _ _ (Below.refl _ _) rfl
  · intro A wx hR hout hdep K hK
    have h19 : A.tmps[19]?.getD undef = (.int .i64 (r1 : Int)) := hdep 19 (by kernel_rfl)
    refine if_yes (by kernel_rfl) ?_
    simp [go_sem, h19, hn2, hdiv, hw, hwu, hand]
    refine (K1.out wx).mono ?_
    rintro e wG ⟨rfl, rfl⟩
    exact hK.out _ _ (Below.refl _ _) rfl
  · intro A wx hR hout hdep K hK
    have h16 : A.tmps[16]?.getD undef = (.int .u32 (dv : Int)) := hdep 16 (by kernel_rfl)
    have h20 : A.tmps[20]?.getD undef = (.int .u32 (lo : Int)) := hdep 20 (by kernel_rfl)
    refine if_yes (by kernel_rfl) ?_
    simp [go_sem, h16, h20, hn2, hdiv, hw, hwu, hand]
    exact hK.out _ _ (Below.refl _ _) rfl
  · intro A wx hR hout hdep K hK
    have h21 : A.tmps[21]?.getD undef = (.int .u32 (o : Int)) := hdep 21 (by kernel_rfl)
    refine if_yes (by kernel_rfl) ?_
    simp [go_sem, h21, hn2, hdiv, hw, hwu, hand]
    exact hK.out _ _ (Below.refl _ _) rfl
  simp only [putSl, Act.put, List.setIfInBounds_toArray, List.set_cons_zero, List.set_cons_succ, show f 6 = .int .u32 (o : Int) from hf 6 (by kernel_rfl)]
  have HBE : Hid (Below w.heap.size w wy) := below_tr HB.out hR
  go_wp2
  go_ret
  exact ⟨rfl, HBE.out⟩
set_option maxHeartbeats 1000000 in
theorem f40_ins (rs rt rd sa : Int) (imm s t : Nat) (hi : imm < 4294967296) (hs : s < 4294967296) (ht : t < 4294967296) (hsa : 0 ≤ sa ∧ sa < 32) (hrd : 0 ≤ rd ∧ rd < 32) (hle : sa ≤ rd) (w : World) : Calls Tryd.prog 40 #[.agg #[.string ⟨#[105, 110, 115]⟩, .int .i64 rs, .int .i64 rt, .int .i64 rd, .int .i64 sa, .int .u32 (imm : Int)], .int .u32 (s : Int), .int .u32 (t : Int)] w fun e w' => e = .returned (.int .u32 ((insM t (s * 2 ^ sa.toNat % 4294967296) (lowN (rd.toNat - sa.toNat + 1) * 2 ^ sa.toNat % 4294967296)) : Nat)) ∧ Below w.heap.size w w' := by
  obtain ⟨g1, g2⟩ := hsa
  obtain ⟨n, rfl⟩ := Int.eq_ofNat_of_zero_le g1
  have hn : n < 32 := by omega
  have hn2 : min n 64 = n := by omega
  rw [Int.toNat_natCast]
  obtain ⟨g3, g4⟩ := hrd
  obtain ⟨r0, rfl⟩ := Int.eq_ofNat_of_zero_le g3
  rw [Int.toNat_natCast]
  have hwu : IntKind.u64.wrap (n : Int) = (n : Int) := by rw [IntKind.wrap_u64]; omega
  obtain ⟨W, hW, hb, hz, d0, d1, d2, d3, d4, d5⟩ := box6 w (.string ⟨#[105, 110, 115]⟩) (.int .i64 rs) (.int .i64 rt) (.int .i64 (r0 : Int)) (.int .i64 (n : Int)) (.int .u32 (imm : Int)) 24
  have HB : Hid (Below w.heap.size w W) := hb
  have hle' : n ≤ r0 := by omega
  have hr1 : r0 - n + 1 ≤ 32 := by omega
  have hw1 : IntKind.i64.wrap ((r0 : Int) + 1) = ((r0 + 1 : Nat) : Int) := by rw [IntKind.wrap_i64]; omega
  have hw2 : IntKind.i64.wrap (((r0 + 1 : Nat) : Int) - (n : Int)) = ((r0 - n + 1 : Nat) : Int) := by rw [IntKind.wrap_i64]; omega
  have K1 : Hid (∀ wx, Calls Tryd.prog 90 #[.int .i64 ((r0 - n + 1 : Nat) : Int)] wx fun e w' => e = .returned (.int .u32 (lowN (r0 - n + 1) : Int)) ∧ w' = wx) := fun wx => mask90 _ hr1 wx
  generalize lowN (r0 - n + 1) = lo at K1 ⊢
  have m1 : (s : Int) * 2 ^ n % 4294967296 = ((s * 2 ^ n % 4294967296 : Nat) : Int) := by simp
  have m2 : IntKind.u32.wrap ((lo : Int) * 2 ^ n) = ((lo * 2 ^ n % 4294967296 : Nat) : Int) := by rw [IntKind.wrap_u32]; simp
  have lp : s * 2 ^ n % 4294967296 < 4294967296 := by omega
  have lq : lo * 2 ^ n % 4294967296 < 4294967296 := by omega
  generalize s * 2 ^ n % 4294967296 = p at m1 lp ⊢
  generalize lo * 2 ^ n % 4294967296 = q at m2 lq ⊢
  have l1 : t &&& (4294967295 - q) < 4294967296 := Nat.lt_of_le_of_lt Nat.and_le_left ht
  have l2 : p &&& q < 4294967296 := Nat.lt_of_le_of_lt Nat.and_le_left lp
  have e1 := and_u32 p q lp lq
  have e2 := andNot_u32 t q ht lq
  have e3 : Hid (bits .or .u32 ((t &&& (4294967295 - q) : Nat) : Int) ((p &&& q : Nat) : Int) = ((insM t p q : Nat) : Int)) := or_u32 _ _ l1 l2
  generalize insM t p q = z at e3 ⊢
  obtain ⟨r1, hr1'⟩ : ∃ r1, r1 = r0 + 1 := ⟨_, rfl⟩
  obtain ⟨r2, hr2'⟩ : ∃ r2, r2 = r0 - n + 1 := ⟨_, rfl⟩
  rw [← hr2'] at hw2 K1
  rw [← hr1'] at hw1 hw2
  clear hr1 hr1' hr2' hle' g1 g2 g3 g4 lp lq l1 l2
  clear hb hz hi hs ht hle
  go_enter Tryd.func40, Tryd.ntmps40
  go_wp2
  refine wp_region_slots (R := Ext) [⟨24, fun v _ => v = (.pointer (some ⟨w.heap.size, 3, none⟩)), fun _ _ _ _ h => h⟩, ⟨25, fun v _ => v = (.int .i64 (r0 : Int)), fun _ _ _ _ h => h⟩, ⟨26, fun v _ => v = (.int .i64 (r1 : Int)), fun _ _ _ _ h => h⟩, ⟨27, fun v _ => v = (.pointer (some ⟨w.heap.size, 4, none⟩)), fun _ _ _ _ h => h⟩, ⟨28, fun v _ => v = (.int .i64 (n : Int)), fun _ _ _ _ h => h⟩, ⟨29, fun v _ => v = (.int .i64 (r2 : Int)), fun _ _ _ _ h => h⟩, ⟨30, fun v _ => v = (.int .u32 (lo : Int)), fun _ _ _ _ h => h⟩, ⟨31, fun v _ => v = (.pointer (some ⟨w.heap.size, 4, none⟩)), fun _ _ _ _ h => h⟩, ⟨32, fun v _ => v = (.int .i64 (n : Int)), fun _ _ _ _ h => h⟩, ⟨33, fun v _ => v = (.int .u64 (n : Int)), fun _ _ _ _ h => h⟩, ⟨34, fun v _ => v = (.int .u32 (q : Int)), fun _ _ _ _ h => h⟩, ⟨7, fun v _ => v = (.int .u32 (q : Int)), fun _ _ _ _ h => h⟩] _ (by kernel_rfl) rfl (by kernel_rfl) (Below.drew (Below.refl _ _)) (fun _ _ _ h1 h2 => below_tr h1 h2) (fun QQ => ⟨?_, ?_, ?_, ?_, ?_, ?_, ?_, ?_, ?_, ?_, ?_, ?_, trivial⟩) (fun f wy hR hf => ?_)
  · intro A wx hR hout hdep K hK
    have h3 : A.tmps[3]?.getD undef = (.pointer (some ⟨w.heap.size, 0, none⟩)) := hout 3 (by kernel_rfl)
    refine if_yes (by kernel_rfl) ?_
    simp [go_sem, h3, hn2, hw1, hw2, hwu, m2]
    exact hK.out _ _ (Below.refl _ _) rfl
  · intro A wx hR hout hdep K hK
    have h24 : A.tmps[24]?.getD undef = (.pointer (some ⟨w.heap.size, 3, none⟩)) := hdep 24 (by kernel_rfl)
    refine if_yes (by kernel_rfl) ?_
    have d0 := keep_cell hR d0
    have d1 := keep_cell hR d1
    have d2 := keep_cell hR d2
    have d3 := keep_cell hR d3
    have d4 := keep_cell hR d4
    have d5 := keep_cell hR d5
    simp [go_sem, h24, d0, d1, d2, d3, d4, d5, hn2, hw1, hw2, hwu, m2]
    exact hK.out _ _ (Below.refl _ _) rfl
  · intro A wx hR hout hdep K hK
    have h25 : A.tmps[25]?.getD undef = (.int .i64 (r0 : Int)) := hdep 25 (by kernel_rfl)
    refine if_yes (by kernel_rfl) ?_
    simp [go_sem, h25, hn2, hw1, hw2, hwu, m2]
    exact hK.out _ _ (Below.refl _ _) rfl
  · intro A wx hR hout hdep K hK
    have h3 : A.tmps[3]?.getD undef = (.pointer (some ⟨w.heap.size, 0, none⟩)) := hout 3 (by kernel_rfl)
    refine if_yes (by kernel_rfl) ?_
    simp [go_sem, h3, hn2, hw1, hw2, hwu, m2]
    exact hK.out _ _ (Below.refl _ _) rfl
  · intro A wx hR hout hdep K hK
    have h27 : A.tmps[27]?.getD undef = (.pointer (some ⟨w.heap.size, 4, none⟩)) := hdep 27 (by kernel_rfl)
    refine if_yes (by kernel_rfl) ?_
    have d0 := keep_cell hR d0
    have d1 := keep_cell hR d1
    have d2 := keep_cell hR d2
    have d3 := keep_cell hR d3
    have d4 := keep_cell hR d4
    have d5 := keep_cell hR d5
    simp [go_sem, h27, d0, d1, d2, d3, d4, d5, hn2, hw1, hw2, hwu, m2]
    exact hK.out _ _ (Below.refl _ _) rfl
  · intro A wx hR hout hdep K hK
    have h26 : A.tmps[26]?.getD undef = (.int .i64 (r1 : Int)) := hdep 26 (by kernel_rfl)
    have h28 : A.tmps[28]?.getD undef = (.int .i64 (n : Int)) := hdep 28 (by kernel_rfl)
    refine if_yes (by kernel_rfl) ?_
    simp [go_sem, h26, h28, hn2, hw1, hw2, hwu, m2]
    exact hK.out _ _ (Below.refl _ _) rfl
  · intro A wx hR hout hdep K hK
    have h29 : A.tmps[29]?.getD undef = (.int .i64 (r2 : Int)) := hdep 29 (by kernel_rfl)
    refine if_yes (by kernel_rfl) ?_
    simp [go_sem, h29, hn2, hw1, hw2, hwu, m2]
    refine (K1.out wx).mono ?_
    rintro e wG ⟨rfl, rfl⟩
    exact hK.out _ _ (Below.refl _ _) rfl
  · intro A wx hR hout hdep K hK
    have h3 : A.tmps[3]?.getD undef = (.pointer (some ⟨w.heap.size, 0, none⟩)) := hout 3 (by kernel_rfl)
    refine if_yes (by kernel_rfl) ?_
    simp [go_sem, h3, hn2, hw1, hw2, hwu, m2]
    exact hK.out _ _ (Below.refl _ _) rfl
  · intro A wx hR hout hdep K hK
    have h31 : A.tmps[31]?.getD undef = (.pointer (some ⟨w.heap.size, 4, none⟩)) := hdep 31 (by kernel_rfl)
    refine if_yes (by kernel_rfl) ?_
    have d0 := keep_cell hR d0
    have d1 := keep_cell hR d1
    have d2 := keep_cell hR d2
    have d3 := keep_cell hR d3
    have d4 := keep_cell hR d4
    have d5 := keep_cell hR d5
    simp [go_sem, h31, d0, d1, d2, d3, d4, d5, hn2, hw1, hw2, hwu, m2]
    exact hK.out _ _ (Below.refl _ _) rfl
  · intro A wx hR hout hdep K hK
    have h32 : A.tmps[32]?.getD undef = (.int .i64 (n : Int)) := hdep 32 (by kernel_rfl)
    refine if_yes (by kernel_rfl) ?_
    simp [go_sem, h32, hn2, hw1, hw2, hwu, m2]
    exact hK.out _ _ (Below.refl _ _) rfl
  · intro A wx hR hout hdep K hK
    have h30 : A.tmps[30]?.getD undef = (.int .u32 (lo : Int)) := hdep 30 (by kernel_rfl)
    have h33 : A.tmps[33]?.getD undef = (.int .u64 (n : Int)) := hdep 33 (by kernel_rfl)
    refine if_yes (by kernel_rfl) ?_
    simp [go_sem, h30, h33, hn2, hw1, hw2, hwu, m2]
    exact hK.out _ _ (Below.refl _ _) rfl
  · intro A wx hR hout hdep K hK
    have h34 : A.tmps[34]?.getD undef = (.int .u32 (q : Int)) := hdep 34 (by kernel_rfl)
    refine if_yes (by kernel_rfl) ?_
    simp [go_sem, h34, hn2, hw1, hw2, hwu, m2]
    exact hK.out _ _ (Below.refl _ _) rfl
  simp only [putSl, Act.put, List.setIfInBounds_toArray, List.set_cons_zero, List.set_cons_succ, show f 7 = .int .u32 (q : Int) from hf 7 (by kernel_rfl)]
  have HBE : Hid (Below w.heap.size w wy) := below_tr HB.out hR
  have d0 := keep_cell hR d0
  have d1 := keep_cell hR d1
  have d2 := keep_cell hR d2
  have d3 := keep_cell hR d3
  have d4 := keep_cell hR d4
  have d5 := keep_cell hR d5
  go_wp2
  go_ret
  exact ⟨ret_u32 e3.out, HBE.out⟩
end Go.Proofs.YtogokbefpgaciaaDoor
