/- What is proved here: the document's Do of shifts and fields. -/
import Derived.Test.YtogokbefpgaciaaDoorAr
import Derived.Test.YtogokbefpgaciaaDoorAi
namespace Go.Proofs.YtogokbefpgaciaaDoor
open Go.RowKit
set_option linter.unusedVariables false
set_option linter.unusedSimpArgs false
set_option maxRecDepth 100000
set_option maxHeartbeats 1000000 in
theorem r9_sll (rs rt rd sa : Int) (imm s t E : Nat) (hi : imm < 4294967296) (hs : s < 4294967296) (ht : t < 4294967296) (hsa : 0 ≤ sa ∧ sa < 32) (hrd : 0 ≤ rd ∧ rd < 32) (hle : sa ≤ rd ∨ True) (hE : ∀ w, Calls Tryd.prog 20 #[.agg #[.string ⟨#[115, 108, 108]⟩, .int .i64 rs, .int .i64 rt, .int .i64 rd, .int .i64 sa, .int .u32 (imm : Int)]] w fun e w' => e = .returned (.tuple #[.int .u32 (E : Int), .bool true]) ∧ Below w.heap.size w w') (w : World) :
    Calls Tryd.prog 9 #[.agg #[.string ⟨#[115, 108, 108]⟩, .int .i64 rs, .int .i64 rt, .int .i64 rd, .int .i64 sa, .int .u32 (imm : Int)], .int .u32 (s : Int), .int .u32 (t : Int)] w fun e w' => e = .returned (.tuple #[.int .u32 ((workN 18 ⟨s, t, imm, Sw.sextI imm 16, sa, rd⟩).getD 0 : Int), .bool (workN 18 ⟨s, t, imm, Sw.sextI imm 16, sa, rd⟩).isSome]) ∧ Below w.heap.size w w' := by
  obtain ⟨W, hW, hb, hz, d0, d1, d2, d3, d4, d5⟩ := box6 w (.string ⟨#[115, 108, 108]⟩) (.int .i64 rs) (.int .i64 rt) (.int .i64 rd) (.int .i64 sa) (.int .u32 (imm : Int)) 24
  have HB : Hid (Below w.heap.size w W) := hb
  have KE := hE W
  have KN : Hid (∀ w, Calls Tryd.prog 11 #[.string ⟨#[115, 108, 108]⟩] w fun e w' => e = .returned (.bool true) ∧ w' = w) := fun w => kn_sll w
  have KS : Hid (∀ w, Calls Tryd.prog 21 #[.int .u32 (imm : Int), .int .i64 16] w fun e w' => e = .returned (.int .u32 ((Sw.sextI imm 16 : Nat) : Int)) ∧ w' = w) := fun w => Sw.rsext_any imm hi 16 w
  have hsx := sext16_lt imm
  generalize Sw.sextI imm 16 = sx at KS hsx ⊢
  obtain ⟨r, hr⟩ : ∃ r, r = workN 18 ⟨s, t, imm, sx, sa, rd⟩ := ⟨_, rfl⟩
  rw [← hr]
  have HR : Hid (r = some ((t * 2 ^ sa.toNat % 4294967296))) := hr
  clear hr
  have K1 : Hid (∀ w, Calls Tryd.prog 25 #[.agg #[.string ⟨#[115, 108, 108]⟩, .int .i64 rs, .int .i64 rt, .int .i64 rd, .int .i64 sa, .int .u32 (imm : Int)], .int .u32 (s : Int), .int .u32 (t : Int)] w fun e w' => e = .returned (.int .u32 ((t * 2 ^ sa.toNat % 4294967296) : Nat)) ∧ Below w.heap.size w w') := fun w => s25_sll rs rt rd sa imm s t hi hs ht hsa hrd hle w
  obtain ⟨o, ho⟩ : ∃ o, o = (t * 2 ^ sa.toNat % 4294967296) := ⟨_, rfl⟩
  rw [← ho] at K1 HR
  clear ho
  clear hb hz hi hs ht hle hsa hrd hE hsx
  go_enter Tryd.func9, Tryd.ntmps9
  go_wp2_with fail
  refine KE.mono ?_
  rintro e w3 ⟨rfl, hb3⟩
  have d0 := keep_cell hb3 d0
  have d1 := keep_cell hb3 d1
  have d2 := keep_cell hb3 d2
  have d3 := keep_cell hb3 d3
  have d4 := keep_cell hb3 d4
  have d5 := keep_cell hb3 d5
  have HB3 : Hid (Below w.heap.size w w3) := below_tr HB.out hb3
  clear hb3 KE
  go_wp2_with fail
  refine (KN.out _).mono ?_
  rintro e w9 ⟨rfl, rfl⟩
  go_wp2_with fail
  refine (KS.out _).mono ?_
  rintro e w9 ⟨rfl, rfl⟩
  go_wp2_with fail
  refine (K1.out _).mono ?_
  rintro e w4 ⟨rfl, hb4⟩
  have HB4 : Hid (Below w.heap.size w w4) := below_tr HB3.out hb4
  clear hb4
  go_wp2
  go_ret2
  exact ⟨(by rw [HR.out]; rfl), HB4.out⟩
set_option maxHeartbeats 1000000 in
theorem r9_srl (rs rt rd sa : Int) (imm s t E : Nat) (hi : imm < 4294967296) (hs : s < 4294967296) (ht : t < 4294967296) (hsa : 0 ≤ sa ∧ sa < 32) (hrd : 0 ≤ rd ∧ rd < 32) (hle : sa ≤ rd ∨ True) (hE : ∀ w, Calls Tryd.prog 20 #[.agg #[.string ⟨#[115, 114, 108]⟩, .int .i64 rs, .int .i64 rt, .int .i64 rd, .int .i64 sa, .int .u32 (imm : Int)]] w fun e w' => e = .returned (.tuple #[.int .u32 (E : Int), .bool true]) ∧ Below w.heap.size w w') (w : World) :
    Calls Tryd.prog 9 #[.agg #[.string ⟨#[115, 114, 108]⟩, .int .i64 rs, .int .i64 rt, .int .i64 rd, .int .i64 sa, .int .u32 (imm : Int)], .int .u32 (s : Int), .int .u32 (t : Int)] w fun e w' => e = .returned (.tuple #[.int .u32 ((workN 19 ⟨s, t, imm, Sw.sextI imm 16, sa, rd⟩).getD 0 : Int), .bool (workN 19 ⟨s, t, imm, Sw.sextI imm 16, sa, rd⟩).isSome]) ∧ Below w.heap.size w w' := by
  obtain ⟨W, hW, hb, hz, d0, d1, d2, d3, d4, d5⟩ := box6 w (.string ⟨#[115, 114, 108]⟩) (.int .i64 rs) (.int .i64 rt) (.int .i64 rd) (.int .i64 sa) (.int .u32 (imm : Int)) 24
  have HB : Hid (Below w.heap.size w W) := hb
  have KE := hE W
  have KN : Hid (∀ w, Calls Tryd.prog 11 #[.string ⟨#[115, 114, 108]⟩] w fun e w' => e = .returned (.bool true) ∧ w' = w) := fun w => kn_srl w
  have KS : Hid (∀ w, Calls Tryd.prog 21 #[.int .u32 (imm : Int), .int .i64 16] w fun e w' => e = .returned (.int .u32 ((Sw.sextI imm 16 : Nat) : Int)) ∧ w' = w) := fun w => Sw.rsext_any imm hi 16 w
  have hsx := sext16_lt imm
  generalize Sw.sextI imm 16 = sx at KS hsx ⊢
  obtain ⟨r, hr⟩ : ∃ r, r = workN 19 ⟨s, t, imm, sx, sa, rd⟩ := ⟨_, rfl⟩
  rw [← hr]
  have HR : Hid (r = some ((t / 2 ^ sa.toNat))) := hr
  clear hr
  have K1 : Hid (∀ w, Calls Tryd.prog 25 #[.agg #[.string ⟨#[115, 114, 108]⟩, .int .i64 rs, .int .i64 rt, .int .i64 rd, .int .i64 sa, .int .u32 (imm : Int)], .int .u32 (s : Int), .int .u32 (t : Int)] w fun e w' => e = .returned (.int .u32 ((t / 2 ^ sa.toNat) : Nat)) ∧ Below w.heap.size w w') := fun w => s25_srl rs rt rd sa imm s t hi hs ht hsa hrd hle w
  obtain ⟨o, ho⟩ : ∃ o, o = (t / 2 ^ sa.toNat) := ⟨_, rfl⟩
  rw [← ho] at K1 HR
  clear ho
  clear hb hz hi hs ht hle hsa hrd hE hsx
  go_enter Tryd.func9, Tryd.ntmps9
  go_wp2_with fail
  refine KE.mono ?_
  rintro e w3 ⟨rfl, hb3⟩
  have d0 := keep_cell hb3 d0
  have d1 := keep_cell hb3 d1
  have d2 := keep_cell hb3 d2
  have d3 := keep_cell hb3 d3
  have d4 := keep_cell hb3 d4
  have d5 := keep_cell hb3 d5
  have HB3 : Hid (Below w.heap.size w w3) := below_tr HB.out hb3
  clear hb3 KE
  go_wp2_with fail
  refine (KN.out _).mono ?_
  rintro e w9 ⟨rfl, rfl⟩
  go_wp2_with fail
  refine (KS.out _).mono ?_
  rintro e w9 ⟨rfl, rfl⟩
  go_wp2_with fail
  refine (K1.out _).mono ?_
  rintro e w4 ⟨rfl, hb4⟩
  have HB4 : Hid (Below w.heap.size w w4) := below_tr HB3.out hb4
  clear hb4
  go_wp2
  go_ret2
  exact ⟨(by rw [HR.out]; rfl), HB4.out⟩
set_option maxHeartbeats 1000000 in
theorem r9_sra (rs rt rd sa : Int) (imm s t E : Nat) (hi : imm < 4294967296) (hs : s < 4294967296) (ht : t < 4294967296) (hsa : 0 ≤ sa ∧ sa < 32) (hrd : 0 ≤ rd ∧ rd < 32) (hle : sa ≤ rd ∨ True) (hE : ∀ w, Calls Tryd.prog 20 #[.agg #[.string ⟨#[115, 114, 97]⟩, .int .i64 rs, .int .i64 rt, .int .i64 rd, .int .i64 sa, .int .u32 (imm : Int)]] w fun e w' => e = .returned (.tuple #[.int .u32 (E : Int), .bool true]) ∧ Below w.heap.size w w') (w : World) :
    Calls Tryd.prog 9 #[.agg #[.string ⟨#[115, 114, 97]⟩, .int .i64 rs, .int .i64 rt, .int .i64 rd, .int .i64 sa, .int .u32 (imm : Int)], .int .u32 (s : Int), .int .u32 (t : Int)] w fun e w' => e = .returned (.tuple #[.int .u32 ((workN 20 ⟨s, t, imm, Sw.sextI imm 16, sa, rd⟩).getD 0 : Int), .bool (workN 20 ⟨s, t, imm, Sw.sextI imm 16, sa, rd⟩).isSome]) ∧ Below w.heap.size w w' := by
  obtain ⟨W, hW, hb, hz, d0, d1, d2, d3, d4, d5⟩ := box6 w (.string ⟨#[115, 114, 97]⟩) (.int .i64 rs) (.int .i64 rt) (.int .i64 rd) (.int .i64 sa) (.int .u32 (imm : Int)) 24
  have HB : Hid (Below w.heap.size w W) := hb
  have KE := hE W
  have KN : Hid (∀ w, Calls Tryd.prog 11 #[.string ⟨#[115, 114, 97]⟩] w fun e w' => e = .returned (.bool true) ∧ w' = w) := fun w => kn_sra w
  have KS : Hid (∀ w, Calls Tryd.prog 21 #[.int .u32 (imm : Int), .int .i64 16] w fun e w' => e = .returned (.int .u32 ((Sw.sextI imm 16 : Nat) : Int)) ∧ w' = w) := fun w => Sw.rsext_any imm hi 16 w
  have hsx := sext16_lt imm
  generalize Sw.sextI imm 16 = sx at KS hsx ⊢
  obtain ⟨r, hr⟩ : ∃ r, r = workN 20 ⟨s, t, imm, sx, sa, rd⟩ := ⟨_, rfl⟩
  rw [← hr]
  have HR : Hid (r = some ((outN (sg t / 2 ^ sa.toNat)))) := hr
  clear hr
  have K1 : Hid (∀ w, Calls Tryd.prog 25 #[.agg #[.string ⟨#[115, 114, 97]⟩, .int .i64 rs, .int .i64 rt, .int .i64 rd, .int .i64 sa, .int .u32 (imm : Int)], .int .u32 (s : Int), .int .u32 (t : Int)] w fun e w' => e = .returned (.int .u32 ((outN (sg t / 2 ^ sa.toNat)) : Nat)) ∧ Below w.heap.size w w') := fun w => s25_sra rs rt rd sa imm s t hi hs ht hsa hrd hle w
  obtain ⟨o, ho⟩ : ∃ o, o = (outN (sg t / 2 ^ sa.toNat)) := ⟨_, rfl⟩
  rw [← ho] at K1 HR
  clear ho
  clear hb hz hi hs ht hle hsa hrd hE hsx
  go_enter Tryd.func9, Tryd.ntmps9
  go_wp2_with fail
  refine KE.mono ?_
  rintro e w3 ⟨rfl, hb3⟩
  have d0 := keep_cell hb3 d0
  have d1 := keep_cell hb3 d1
  have d2 := keep_cell hb3 d2
  have d3 := keep_cell hb3 d3
  have d4 := keep_cell hb3 d4
  have d5 := keep_cell hb3 d5
  have HB3 : Hid (Below w.heap.size w w3) := below_tr HB.out hb3
  clear hb3 KE
  go_wp2_with fail
  refine (KN.out _).mono ?_
  rintro e w9 ⟨rfl, rfl⟩
  go_wp2_with fail
  refine (KS.out _).mono ?_
  rintro e w9 ⟨rfl, rfl⟩
  go_wp2_with fail
  refine (K1.out _).mono ?_
  rintro e w4 ⟨rfl, hb4⟩
  have HB4 : Hid (Below w.heap.size w w4) := below_tr HB3.out hb4
  clear hb4
  go_wp2
  go_ret2
  exact ⟨(by rw [HR.out]; rfl), HB4.out⟩
set_option maxHeartbeats 1000000 in
theorem r9_sllv (rs rt rd sa : Int) (imm s t E : Nat) (hi : imm < 4294967296) (hs : s < 4294967296) (ht : t < 4294967296) (hsa : 0 ≤ sa ∧ sa < 32) (hrd : 0 ≤ rd ∧ rd < 32) (hle : sa ≤ rd ∨ True) (hE : ∀ w, Calls Tryd.prog 20 #[.agg #[.string ⟨#[115, 108, 108, 118]⟩, .int .i64 rs, .int .i64 rt, .int .i64 rd, .int .i64 sa, .int .u32 (imm : Int)]] w fun e w' => e = .returned (.tuple #[.int .u32 (E : Int), .bool true]) ∧ Below w.heap.size w w') (w : World) :
    Calls Tryd.prog 9 #[.agg #[.string ⟨#[115, 108, 108, 118]⟩, .int .i64 rs, .int .i64 rt, .int .i64 rd, .int .i64 sa, .int .u32 (imm : Int)], .int .u32 (s : Int), .int .u32 (t : Int)] w fun e w' => e = .returned (.tuple #[.int .u32 ((workN 21 ⟨s, t, imm, Sw.sextI imm 16, sa, rd⟩).getD 0 : Int), .bool (workN 21 ⟨s, t, imm, Sw.sextI imm 16, sa, rd⟩).isSome]) ∧ Below w.heap.size w w' := by
  obtain ⟨W, hW, hb, hz, d0, d1, d2, d3, d4, d5⟩ := box6 w (.string ⟨#[115, 108, 108, 118]⟩) (.int .i64 rs) (.int .i64 rt) (.int .i64 rd) (.int .i64 sa) (.int .u32 (imm : Int)) 24
  have HB : Hid (Below w.heap.size w W) := hb
  have KE := hE W
  have KN : Hid (∀ w, Calls Tryd.prog 11 #[.string ⟨#[115, 108, 108, 118]⟩] w fun e w' => e = .returned (.bool true) ∧ w' = w) := fun w => kn_sllv w
  have KS : Hid (∀ w, Calls Tryd.prog 21 #[.int .u32 (imm : Int), .int .i64 16] w fun e w' => e = .returned (.int .u32 ((Sw.sextI imm 16 : Nat) : Int)) ∧ w' = w) := fun w => Sw.rsext_any imm hi 16 w
  have hsx := sext16_lt imm
  generalize Sw.sextI imm 16 = sx at KS hsx ⊢
  obtain ⟨r, hr⟩ : ∃ r, r = workN 21 ⟨s, t, imm, sx, sa, rd⟩ := ⟨_, rfl⟩
  rw [← hr]
  have HR : Hid (r = some ((t * 2 ^ (s % 32) % 4294967296))) := hr
  clear hr
  have K1 : Hid (∀ w, Calls Tryd.prog 25 #[.agg #[.string ⟨#[115, 108, 108, 118]⟩, .int .i64 rs, .int .i64 rt, .int .i64 rd, .int .i64 sa, .int .u32 (imm : Int)], .int .u32 (s : Int), .int .u32 (t : Int)] w fun e w' => e = .returned (.int .u32 ((t * 2 ^ (s % 32) % 4294967296) : Nat)) ∧ Below w.heap.size w w') := fun w => s25_sllv rs rt rd sa imm s t hi hs ht hsa hrd hle w
  obtain ⟨o, ho⟩ : ∃ o, o = (t * 2 ^ (s % 32) % 4294967296) := ⟨_, rfl⟩
  rw [← ho] at K1 HR
  clear ho
  clear hb hz hi hs ht hle hsa hrd hE hsx
  go_enter Tryd.func9, Tryd.ntmps9
  go_wp2_with fail
  refine KE.mono ?_
  rintro e w3 ⟨rfl, hb3⟩
  have d0 := keep_cell hb3 d0
  have d1 := keep_cell hb3 d1
  have d2 := keep_cell hb3 d2
  have d3 := keep_cell hb3 d3
  have d4 := keep_cell hb3 d4
  have d5 := keep_cell hb3 d5
  have HB3 : Hid (Below w.heap.size w w3) := below_tr HB.out hb3
  clear hb3 KE
  go_wp2_with fail
  refine (KN.out _).mono ?_
  rintro e w9 ⟨rfl, rfl⟩
  go_wp2_with fail
  refine (KS.out _).mono ?_
  rintro e w9 ⟨rfl, rfl⟩
  go_wp2_with fail
  refine (K1.out _).mono ?_
  rintro e w4 ⟨rfl, hb4⟩
  have HB4 : Hid (Below w.heap.size w w4) := below_tr HB3.out hb4
  clear hb4
  go_wp2
  go_ret2
  exact ⟨(by rw [HR.out]; rfl), HB4.out⟩
set_option maxHeartbeats 1000000 in
theorem r9_srlv (rs rt rd sa : Int) (imm s t E : Nat) (hi : imm < 4294967296) (hs : s < 4294967296) (ht : t < 4294967296) (hsa : 0 ≤ sa ∧ sa < 32) (hrd : 0 ≤ rd ∧ rd < 32) (hle : sa ≤ rd ∨ True) (hE : ∀ w, Calls Tryd.prog 20 #[.agg #[.string ⟨#[115, 114, 108, 118]⟩, .int .i64 rs, .int .i64 rt, .int .i64 rd, .int .i64 sa, .int .u32 (imm : Int)]] w fun e w' => e = .returned (.tuple #[.int .u32 (E : Int), .bool true]) ∧ Below w.heap.size w w') (w : World) :
    Calls Tryd.prog 9 #[.agg #[.string ⟨#[115, 114, 108, 118]⟩, .int .i64 rs, .int .i64 rt, .int .i64 rd, .int .i64 sa, .int .u32 (imm : Int)], .int .u32 (s : Int), .int .u32 (t : Int)] w fun e w' => e = .returned (.tuple #[.int .u32 ((workN 22 ⟨s, t, imm, Sw.sextI imm 16, sa, rd⟩).getD 0 : Int), .bool (workN 22 ⟨s, t, imm, Sw.sextI imm 16, sa, rd⟩).isSome]) ∧ Below w.heap.size w w' := by
  obtain ⟨W, hW, hb, hz, d0, d1, d2, d3, d4, d5⟩ := box6 w (.string ⟨#[115, 114, 108, 118]⟩) (.int .i64 rs) (.int .i64 rt) (.int .i64 rd) (.int .i64 sa) (.int .u32 (imm : Int)) 24
  have HB : Hid (Below w.heap.size w W) := hb
  have KE := hE W
  have KN : Hid (∀ w, Calls Tryd.prog 11 #[.string ⟨#[115, 114, 108, 118]⟩] w fun e w' => e = .returned (.bool true) ∧ w' = w) := fun w => kn_srlv w
  have KS : Hid (∀ w, Calls Tryd.prog 21 #[.int .u32 (imm : Int), .int .i64 16] w fun e w' => e = .returned (.int .u32 ((Sw.sextI imm 16 : Nat) : Int)) ∧ w' = w) := fun w => Sw.rsext_any imm hi 16 w
  have hsx := sext16_lt imm
  generalize Sw.sextI imm 16 = sx at KS hsx ⊢
  obtain ⟨r, hr⟩ : ∃ r, r = workN 22 ⟨s, t, imm, sx, sa, rd⟩ := ⟨_, rfl⟩
  rw [← hr]
  have HR : Hid (r = some ((t / 2 ^ (s % 32)))) := hr
  clear hr
  have K1 : Hid (∀ w, Calls Tryd.prog 25 #[.agg #[.string ⟨#[115, 114, 108, 118]⟩, .int .i64 rs, .int .i64 rt, .int .i64 rd, .int .i64 sa, .int .u32 (imm : Int)], .int .u32 (s : Int), .int .u32 (t : Int)] w fun e w' => e = .returned (.int .u32 ((t / 2 ^ (s % 32)) : Nat)) ∧ Below w.heap.size w w') := fun w => s25_srlv rs rt rd sa imm s t hi hs ht hsa hrd hle w
  obtain ⟨o, ho⟩ : ∃ o, o = (t / 2 ^ (s % 32)) := ⟨_, rfl⟩
  rw [← ho] at K1 HR
  clear ho
  clear hb hz hi hs ht hle hsa hrd hE hsx
  go_enter Tryd.func9, Tryd.ntmps9
  go_wp2_with fail
  refine KE.mono ?_
  rintro e w3 ⟨rfl, hb3⟩
  have d0 := keep_cell hb3 d0
  have d1 := keep_cell hb3 d1
  have d2 := keep_cell hb3 d2
  have d3 := keep_cell hb3 d3
  have d4 := keep_cell hb3 d4
  have d5 := keep_cell hb3 d5
  have HB3 : Hid (Below w.heap.size w w3) := below_tr HB.out hb3
  clear hb3 KE
  go_wp2_with fail
  refine (KN.out _).mono ?_
  rintro e w9 ⟨rfl, rfl⟩
  go_wp2_with fail
  refine (KS.out _).mono ?_
  rintro e w9 ⟨rfl, rfl⟩
  go_wp2_with fail
  refine (K1.out _).mono ?_
  rintro e w4 ⟨rfl, hb4⟩
  have HB4 : Hid (Below w.heap.size w w4) := below_tr HB3.out hb4
  clear hb4
  go_wp2
  go_ret2
  exact ⟨(by rw [HR.out]; rfl), HB4.out⟩
set_option maxHeartbeats 1000000 in
theorem r9_srav (rs rt rd sa : Int) (imm s t E : Nat) (hi : imm < 4294967296) (hs : s < 4294967296) (ht : t < 4294967296) (hsa : 0 ≤ sa ∧ sa < 32) (hrd : 0 ≤ rd ∧ rd < 32) (hle : sa ≤ rd ∨ True) (hE : ∀ w, Calls Tryd.prog 20 #[.agg #[.string ⟨#[115, 114, 97, 118]⟩, .int .i64 rs, .int .i64 rt, .int .i64 rd, .int .i64 sa, .int .u32 (imm : Int)]] w fun e w' => e = .returned (.tuple #[.int .u32 (E : Int), .bool true]) ∧ Below w.heap.size w w') (w : World) :
    Calls Tryd.prog 9 #[.agg #[.string ⟨#[115, 114, 97, 118]⟩, .int .i64 rs, .int .i64 rt, .int .i64 rd, .int .i64 sa, .int .u32 (imm : Int)], .int .u32 (s : Int), .int .u32 (t : Int)] w fun e w' => e = .returned (.tuple #[.int .u32 ((workN 23 ⟨s, t, imm, Sw.sextI imm 16, sa, rd⟩).getD 0 : Int), .bool (workN 23 ⟨s, t, imm, Sw.sextI imm 16, sa, rd⟩).isSome]) ∧ Below w.heap.size w w' := by
  obtain ⟨W, hW, hb, hz, d0, d1, d2, d3, d4, d5⟩ := box6 w (.string ⟨#[115, 114, 97, 118]⟩) (.int .i64 rs) (.int .i64 rt) (.int .i64 rd) (.int .i64 sa) (.int .u32 (imm : Int)) 24
  have HB : Hid (Below w.heap.size w W) := hb
  have KE := hE W
  have KN : Hid (∀ w, Calls Tryd.prog 11 #[.string ⟨#[115, 114, 97, 118]⟩] w fun e w' => e = .returned (.bool true) ∧ w' = w) := fun w => kn_srav w
  have KS : Hid (∀ w, Calls Tryd.prog 21 #[.int .u32 (imm : Int), .int .i64 16] w fun e w' => e = .returned (.int .u32 ((Sw.sextI imm 16 : Nat) : Int)) ∧ w' = w) := fun w => Sw.rsext_any imm hi 16 w
  have hsx := sext16_lt imm
  generalize Sw.sextI imm 16 = sx at KS hsx ⊢
  obtain ⟨r, hr⟩ : ∃ r, r = workN 23 ⟨s, t, imm, sx, sa, rd⟩ := ⟨_, rfl⟩
  rw [← hr]
  have HR : Hid (r = some ((outN (sg t / 2 ^ (s % 32))))) := hr
  clear hr
  have K1 : Hid (∀ w, Calls Tryd.prog 25 #[.agg #[.string ⟨#[115, 114, 97, 118]⟩, .int .i64 rs, .int .i64 rt, .int .i64 rd, .int .i64 sa, .int .u32 (imm : Int)], .int .u32 (s : Int), .int .u32 (t : Int)] w fun e w' => e = .returned (.int .u32 ((outN (sg t / 2 ^ (s % 32))) : Nat)) ∧ Below w.heap.size w w') := fun w => s25_srav rs rt rd sa imm s t hi hs ht hsa hrd hle w
  obtain ⟨o, ho⟩ : ∃ o, o = (outN (sg t / 2 ^ (s % 32))) := ⟨_, rfl⟩
  rw [← ho] at K1 HR
  clear ho
  clear hb hz hi hs ht hle hsa hrd hE hsx
  go_enter Tryd.func9, Tryd.ntmps9
  go_wp2_with fail
  refine KE.mono ?_
  rintro e w3 ⟨rfl, hb3⟩
  have d0 := keep_cell hb3 d0
  have d1 := keep_cell hb3 d1
  have d2 := keep_cell hb3 d2
  have d3 := keep_cell hb3 d3
  have d4 := keep_cell hb3 d4
  have d5 := keep_cell hb3 d5
  have HB3 : Hid (Below w.heap.size w w3) := below_tr HB.out hb3
  clear hb3 KE
  go_wp2_with fail
  refine (KN.out _).mono ?_
  rintro e w9 ⟨rfl, rfl⟩
  go_wp2_with fail
  refine (KS.out _).mono ?_
  rintro e w9 ⟨rfl, rfl⟩
  go_wp2_with fail
  refine (K1.out _).mono ?_
  rintro e w4 ⟨rfl, hb4⟩
  have HB4 : Hid (Below w.heap.size w w4) := below_tr HB3.out hb4
  clear hb4
  go_wp2
  go_ret2
  exact ⟨(by rw [HR.out]; rfl), HB4.out⟩
set_option maxHeartbeats 1000000 in
theorem r9_rotr (rs rt rd sa : Int) (imm s t E : Nat) (hi : imm < 4294967296) (hs : s < 4294967296) (ht : t < 4294967296) (hsa : 0 ≤ sa ∧ sa < 32) (hrd : 0 ≤ rd ∧ rd < 32) (hle : sa ≤ rd ∨ True) (hE : ∀ w, Calls Tryd.prog 20 #[.agg #[.string ⟨#[114, 111, 116, 114]⟩, .int .i64 rs, .int .i64 rt, .int .i64 rd, .int .i64 sa, .int .u32 (imm : Int)]] w fun e w' => e = .returned (.tuple #[.int .u32 (E : Int), .bool true]) ∧ Below w.heap.size w w') (w : World) :
    Calls Tryd.prog 9 #[.agg #[.string ⟨#[114, 111, 116, 114]⟩, .int .i64 rs, .int .i64 rt, .int .i64 rd, .int .i64 sa, .int .u32 (imm : Int)], .int .u32 (s : Int), .int .u32 (t : Int)] w fun e w' => e = .returned (.tuple #[.int .u32 ((workN 24 ⟨s, t, imm, Sw.sextI imm 16, sa, rd⟩).getD 0 : Int), .bool (workN 24 ⟨s, t, imm, Sw.sextI imm 16, sa, rd⟩).isSome]) ∧ Below w.heap.size w w' := by
  obtain ⟨W, hW, hb, hz, d0, d1, d2, d3, d4, d5⟩ := box6 w (.string ⟨#[114, 111, 116, 114]⟩) (.int .i64 rs) (.int .i64 rt) (.int .i64 rd) (.int .i64 sa) (.int .u32 (imm : Int)) 24
  have HB : Hid (Below w.heap.size w W) := hb
  have KE := hE W
  have KN : Hid (∀ w, Calls Tryd.prog 11 #[.string ⟨#[114, 111, 116, 114]⟩] w fun e w' => e = .returned (.bool true) ∧ w' = w) := fun w => kn_rotr w
  have KS : Hid (∀ w, Calls Tryd.prog 21 #[.int .u32 (imm : Int), .int .i64 16] w fun e w' => e = .returned (.int .u32 ((Sw.sextI imm 16 : Nat) : Int)) ∧ w' = w) := fun w => Sw.rsext_any imm hi 16 w
  have hsx := sext16_lt imm
  generalize Sw.sextI imm 16 = sx at KS hsx ⊢
  obtain ⟨r, hr⟩ : ∃ r, r = workN 24 ⟨s, t, imm, sx, sa, rd⟩ := ⟨_, rfl⟩
  rw [← hr]
  have HR : Hid (r = some ((Sw.rotI t sa))) := hr
  clear hr
  have K1 : Hid (∀ w, Calls Tryd.prog 25 #[.agg #[.string ⟨#[114, 111, 116, 114]⟩, .int .i64 rs, .int .i64 rt, .int .i64 rd, .int .i64 sa, .int .u32 (imm : Int)], .int .u32 (s : Int), .int .u32 (t : Int)] w fun e w' => e = .returned (.int .u32 ((Sw.rotI t sa) : Nat)) ∧ Below w.heap.size w w') := fun w => s25_rotr rs rt rd sa imm s t hi hs ht hsa hrd hle w
  obtain ⟨o, ho⟩ : ∃ o, o = (Sw.rotI t sa) := ⟨_, rfl⟩
  rw [← ho] at K1 HR
  clear ho
  clear hb hz hi hs ht hle hsa hrd hE hsx
  go_enter Tryd.func9, Tryd.ntmps9
  go_wp2_with fail
  refine KE.mono ?_
  rintro e w3 ⟨rfl, hb3⟩
  have d0 := keep_cell hb3 d0
  have d1 := keep_cell hb3 d1
  have d2 := keep_cell hb3 d2
  have d3 := keep_cell hb3 d3
  have d4 := keep_cell hb3 d4
  have d5 := keep_cell hb3 d5
  have HB3 : Hid (Below w.heap.size w w3) := below_tr HB.out hb3
  clear hb3 KE
  go_wp2_with fail
  refine (KN.out _).mono ?_
  rintro e w9 ⟨rfl, rfl⟩
  go_wp2_with fail
  refine (KS.out _).mono ?_
  rintro e w9 ⟨rfl, rfl⟩
  go_wp2_with fail
  refine (K1.out _).mono ?_
  rintro e w4 ⟨rfl, hb4⟩
  have HB4 : Hid (Below w.heap.size w w4) := below_tr HB3.out hb4
  clear hb4
  go_wp2
  go_ret2
  exact ⟨(by rw [HR.out]; rfl), HB4.out⟩
set_option maxHeartbeats 1000000 in
theorem r9_rotrv (rs rt rd sa : Int) (imm s t E : Nat) (hi : imm < 4294967296) (hs : s < 4294967296) (ht : t < 4294967296) (hsa : 0 ≤ sa ∧ sa < 32) (hrd : 0 ≤ rd ∧ rd < 32) (hle : sa ≤ rd ∨ True) (hE : ∀ w, Calls Tryd.prog 20 #[.agg #[.string ⟨#[114, 111, 116, 114, 118]⟩, .int .i64 rs, .int .i64 rt, .int .i64 rd, .int .i64 sa, .int .u32 (imm : Int)]] w fun e w' => e = .returned (.tuple #[.int .u32 (E : Int), .bool true]) ∧ Below w.heap.size w w') (w : World) :
    Calls Tryd.prog 9 #[.agg #[.string ⟨#[114, 111, 116, 114, 118]⟩, .int .i64 rs, .int .i64 rt, .int .i64 rd, .int .i64 sa, .int .u32 (imm : Int)], .int .u32 (s : Int), .int .u32 (t : Int)] w fun e w' => e = .returned (.tuple #[.int .u32 ((workN 25 ⟨s, t, imm, Sw.sextI imm 16, sa, rd⟩).getD 0 : Int), .bool (workN 25 ⟨s, t, imm, Sw.sextI imm 16, sa, rd⟩).isSome]) ∧ Below w.heap.size w w' := by
  obtain ⟨W, hW, hb, hz, d0, d1, d2, d3, d4, d5⟩ := box6 w (.string ⟨#[114, 111, 116, 114, 118]⟩) (.int .i64 rs) (.int .i64 rt) (.int .i64 rd) (.int .i64 sa) (.int .u32 (imm : Int)) 24
  have HB : Hid (Below w.heap.size w W) := hb
  have KE := hE W
  have KN : Hid (∀ w, Calls Tryd.prog 11 #[.string ⟨#[114, 111, 116, 114, 118]⟩] w fun e w' => e = .returned (.bool true) ∧ w' = w) := fun w => kn_rotrv w
  have KS : Hid (∀ w, Calls Tryd.prog 21 #[.int .u32 (imm : Int), .int .i64 16] w fun e w' => e = .returned (.int .u32 ((Sw.sextI imm 16 : Nat) : Int)) ∧ w' = w) := fun w => Sw.rsext_any imm hi 16 w
  have hsx := sext16_lt imm
  generalize Sw.sextI imm 16 = sx at KS hsx ⊢
  obtain ⟨r, hr⟩ : ∃ r, r = workN 25 ⟨s, t, imm, sx, sa, rd⟩ := ⟨_, rfl⟩
  rw [← hr]
  have HR : Hid (r = some ((Sw.rotI t ((s % 32 : Nat) : Int)))) := hr
  clear hr
  have K1 : Hid (∀ w, Calls Tryd.prog 25 #[.agg #[.string ⟨#[114, 111, 116, 114, 118]⟩, .int .i64 rs, .int .i64 rt, .int .i64 rd, .int .i64 sa, .int .u32 (imm : Int)], .int .u32 (s : Int), .int .u32 (t : Int)] w fun e w' => e = .returned (.int .u32 ((Sw.rotI t ((s % 32 : Nat) : Int)) : Nat)) ∧ Below w.heap.size w w') := fun w => s25_rotrv rs rt rd sa imm s t hi hs ht hsa hrd hle w
  obtain ⟨o, ho⟩ : ∃ o, o = (Sw.rotI t ((s % 32 : Nat) : Int)) := ⟨_, rfl⟩
  rw [← ho] at K1 HR
  clear ho
  clear hb hz hi hs ht hle hsa hrd hE hsx
  go_enter Tryd.func9, Tryd.ntmps9
  go_wp2_with fail
  refine KE.mono ?_
  rintro e w3 ⟨rfl, hb3⟩
  have d0 := keep_cell hb3 d0
  have d1 := keep_cell hb3 d1
  have d2 := keep_cell hb3 d2
  have d3 := keep_cell hb3 d3
  have d4 := keep_cell hb3 d4
  have d5 := keep_cell hb3 d5
  have HB3 : Hid (Below w.heap.size w w3) := below_tr HB.out hb3
  clear hb3 KE
  go_wp2_with fail
  refine (KN.out _).mono ?_
  rintro e w9 ⟨rfl, rfl⟩
  go_wp2_with fail
  refine (KS.out _).mono ?_
  rintro e w9 ⟨rfl, rfl⟩
  go_wp2_with fail
  refine (K1.out _).mono ?_
  rintro e w4 ⟨rfl, hb4⟩
  have HB4 : Hid (Below w.heap.size w w4) := below_tr HB3.out hb4
  clear hb4
  go_wp2
  go_ret2
  exact ⟨(by rw [HR.out]; rfl), HB4.out⟩
set_option maxHeartbeats 1000000 in
theorem r9_mul (rs rt rd sa : Int) (imm s t E : Nat) (hi : imm < 4294967296) (hs : s < 4294967296) (ht : t < 4294967296) (hsa : 0 ≤ sa ∧ sa < 32) (hrd : 0 ≤ rd ∧ rd < 32) (hle : sa ≤ rd ∨ True) (hE : ∀ w, Calls Tryd.prog 20 #[.agg #[.string ⟨#[109, 117, 108]⟩, .int .i64 rs, .int .i64 rt, .int .i64 rd, .int .i64 sa, .int .u32 (imm : Int)]] w fun e w' => e = .returned (.tuple #[.int .u32 (E : Int), .bool true]) ∧ Below w.heap.size w w') (w : World) :
    Calls Tryd.prog 9 #[.agg #[.string ⟨#[109, 117, 108]⟩, .int .i64 rs, .int .i64 rt, .int .i64 rd, .int .i64 sa, .int .u32 (imm : Int)], .int .u32 (s : Int), .int .u32 (t : Int)] w fun e w' => e = .returned (.tuple #[.int .u32 ((workN 26 ⟨s, t, imm, Sw.sextI imm 16, sa, rd⟩).getD 0 : Int), .bool (workN 26 ⟨s, t, imm, Sw.sextI imm 16, sa, rd⟩).isSome]) ∧ Below w.heap.size w w' := by
  obtain ⟨W, hW, hb, hz, d0, d1, d2, d3, d4, d5⟩ := box6 w (.string ⟨#[109, 117, 108]⟩) (.int .i64 rs) (.int .i64 rt) (.int .i64 rd) (.int .i64 sa) (.int .u32 (imm : Int)) 24
  have HB : Hid (Below w.heap.size w W) := hb
  have KE := hE W
  have KN : Hid (∀ w, Calls Tryd.prog 11 #[.string ⟨#[109, 117, 108]⟩] w fun e w' => e = .returned (.bool true) ∧ w' = w) := fun w => kn_mul w
  have KS : Hid (∀ w, Calls Tryd.prog 21 #[.int .u32 (imm : Int), .int .i64 16] w fun e w' => e = .returned (.int .u32 ((Sw.sextI imm 16 : Nat) : Int)) ∧ w' = w) := fun w => Sw.rsext_any imm hi 16 w
  have hsx := sext16_lt imm
  generalize Sw.sextI imm 16 = sx at KS hsx ⊢
  obtain ⟨r, hr⟩ : ∃ r, r = workN 26 ⟨s, t, imm, sx, sa, rd⟩ := ⟨_, rfl⟩
  rw [← hr]
  have HR : Hid (r = some ((s * t % 4294967296))) := hr
  clear hr
  have K1 : Hid (∀ w, Calls Tryd.prog 25 #[.agg #[.string ⟨#[109, 117, 108]⟩, .int .i64 rs, .int .i64 rt, .int .i64 rd, .int .i64 sa, .int .u32 (imm : Int)], .int .u32 (s : Int), .int .u32 (t : Int)] w fun e w' => e = .returned (.int .u32 ((s * t % 4294967296) : Nat)) ∧ Below w.heap.size w w') := fun w => s25_mul rs rt rd sa imm s t hi hs ht hsa hrd hle w
  obtain ⟨o, ho⟩ : ∃ o, o = (s * t % 4294967296) := ⟨_, rfl⟩
  rw [← ho] at K1 HR
  clear ho
  clear hb hz hi hs ht hle hsa hrd hE hsx
  go_enter Tryd.func9, Tryd.ntmps9
  go_wp2_with fail
  refine KE.mono ?_
  rintro e w3 ⟨rfl, hb3⟩
  have d0 := keep_cell hb3 d0
  have d1 := keep_cell hb3 d1
  have d2 := keep_cell hb3 d2
  have d3 := keep_cell hb3 d3
  have d4 := keep_cell hb3 d4
  have d5 := keep_cell hb3 d5
  have HB3 : Hid (Below w.heap.size w w3) := below_tr HB.out hb3
  clear hb3 KE
  go_wp2_with fail
  refine (KN.out _).mono ?_
  rintro e w9 ⟨rfl, rfl⟩
  go_wp2_with fail
  refine (KS.out _).mono ?_
  rintro e w9 ⟨rfl, rfl⟩
  go_wp2_with fail
  refine (K1.out _).mono ?_
  rintro e w4 ⟨rfl, hb4⟩
  have HB4 : Hid (Below w.heap.size w w4) := below_tr HB3.out hb4
  clear hb4
  go_wp2
  go_ret2
  exact ⟨(by rw [HR.out]; rfl), HB4.out⟩
set_option maxHeartbeats 1000000 in
theorem r9_clz (rs rt rd sa : Int) (imm s t E : Nat) (hi : imm < 4294967296) (hs : s < 4294967296) (ht : t < 4294967296) (hsa : 0 ≤ sa ∧ sa < 32) (hrd : 0 ≤ rd ∧ rd < 32) (hle : sa ≤ rd ∨ True) (hE : ∀ w, Calls Tryd.prog 20 #[.agg #[.string ⟨#[99, 108, 122]⟩, .int .i64 rs, .int .i64 rt, .int .i64 rd, .int .i64 sa, .int .u32 (imm : Int)]] w fun e w' => e = .returned (.tuple #[.int .u32 (E : Int), .bool true]) ∧ Below w.heap.size w w') (w : World) :
    Calls Tryd.prog 9 #[.agg #[.string ⟨#[99, 108, 122]⟩, .int .i64 rs, .int .i64 rt, .int .i64 rd, .int .i64 sa, .int .u32 (imm : Int)], .int .u32 (s : Int), .int .u32 (t : Int)] w fun e w' => e = .returned (.tuple #[.int .u32 ((workN 27 ⟨s, t, imm, Sw.sextI imm 16, sa, rd⟩).getD 0 : Int), .bool (workN 27 ⟨s, t, imm, Sw.sextI imm 16, sa, rd⟩).isSome]) ∧ Below w.heap.size w w' := by
  obtain ⟨W, hW, hb, hz, d0, d1, d2, d3, d4, d5⟩ := box6 w (.string ⟨#[99, 108, 122]⟩) (.int .i64 rs) (.int .i64 rt) (.int .i64 rd) (.int .i64 sa) (.int .u32 (imm : Int)) 24
  have HB : Hid (Below w.heap.size w W) := hb
  have KE := hE W
  have KN : Hid (∀ w, Calls Tryd.prog 11 #[.string ⟨#[99, 108, 122]⟩] w fun e w' => e = .returned (.bool true) ∧ w' = w) := fun w => kn_clz w
  have KS : Hid (∀ w, Calls Tryd.prog 21 #[.int .u32 (imm : Int), .int .i64 16] w fun e w' => e = .returned (.int .u32 ((Sw.sextI imm 16 : Nat) : Int)) ∧ w' = w) := fun w => Sw.rsext_any imm hi 16 w
  have hsx := sext16_lt imm
  generalize Sw.sextI imm 16 = sx at KS hsx ⊢
  obtain ⟨r, hr⟩ : ∃ r, r = workN 27 ⟨s, t, imm, sx, sa, rd⟩ := ⟨_, rfl⟩
  rw [← hr]
  have HR : Hid (r = some ((leadN s 0))) := hr
  clear hr
  have K1 : Hid (∀ w, Calls Tryd.prog 25 #[.agg #[.string ⟨#[99, 108, 122]⟩, .int .i64 rs, .int .i64 rt, .int .i64 rd, .int .i64 sa, .int .u32 (imm : Int)], .int .u32 (s : Int), .int .u32 (t : Int)] w fun e w' => e = .returned (.int .u32 ((leadN s 0) : Nat)) ∧ Below w.heap.size w w') := fun w => s25_clz rs rt rd sa imm s t hi hs ht hsa hrd hle w
  obtain ⟨o, ho⟩ : ∃ o, o = (leadN s 0) := ⟨_, rfl⟩
  rw [← ho] at K1 HR
  clear ho
  clear hb hz hi hs ht hle hsa hrd hE hsx
  go_enter Tryd.func9, Tryd.ntmps9
  go_wp2_with fail
  refine KE.mono ?_
  rintro e w3 ⟨rfl, hb3⟩
  have d0 := keep_cell hb3 d0
  have d1 := keep_cell hb3 d1
  have d2 := keep_cell hb3 d2
  have d3 := keep_cell hb3 d3
  have d4 := keep_cell hb3 d4
  have d5 := keep_cell hb3 d5
  have HB3 : Hid (Below w.heap.size w w3) := below_tr HB.out hb3
  clear hb3 KE
  go_wp2_with fail
  refine (KN.out _).mono ?_
  rintro e w9 ⟨rfl, rfl⟩
  go_wp2_with fail
  refine (KS.out _).mono ?_
  rintro e w9 ⟨rfl, rfl⟩
  go_wp2_with fail
  refine (K1.out _).mono ?_
  rintro e w4 ⟨rfl, hb4⟩
  have HB4 : Hid (Below w.heap.size w w4) := below_tr HB3.out hb4
  clear hb4
  go_wp2
  go_ret2
  exact ⟨(by rw [HR.out]; rfl), HB4.out⟩
set_option maxHeartbeats 1000000 in
theorem r9_clo (rs rt rd sa : Int) (imm s t E : Nat) (hi : imm < 4294967296) (hs : s < 4294967296) (ht : t < 4294967296) (hsa : 0 ≤ sa ∧ sa < 32) (hrd : 0 ≤ rd ∧ rd < 32) (hle : sa ≤ rd ∨ True) (hE : ∀ w, Calls Tryd.prog 20 #[.agg #[.string ⟨#[99, 108, 111]⟩, .int .i64 rs, .int .i64 rt, .int .i64 rd, .int .i64 sa, .int .u32 (imm : Int)]] w fun e w' => e = .returned (.tuple #[.int .u32 (E : Int), .bool true]) ∧ Below w.heap.size w w') (w : World) :
    Calls Tryd.prog 9 #[.agg #[.string ⟨#[99, 108, 111]⟩, .int .i64 rs, .int .i64 rt, .int .i64 rd, .int .i64 sa, .int .u32 (imm : Int)], .int .u32 (s : Int), .int .u32 (t : Int)] w fun e w' => e = .returned (.tuple #[.int .u32 ((workN 28 ⟨s, t, imm, Sw.sextI imm 16, sa, rd⟩).getD 0 : Int), .bool (workN 28 ⟨s, t, imm, Sw.sextI imm 16, sa, rd⟩).isSome]) ∧ Below w.heap.size w w' := by
  obtain ⟨W, hW, hb, hz, d0, d1, d2, d3, d4, d5⟩ := box6 w (.string ⟨#[99, 108, 111]⟩) (.int .i64 rs) (.int .i64 rt) (.int .i64 rd) (.int .i64 sa) (.int .u32 (imm : Int)) 24
  have HB : Hid (Below w.heap.size w W) := hb
  have KE := hE W
  have KN : Hid (∀ w, Calls Tryd.prog 11 #[.string ⟨#[99, 108, 111]⟩] w fun e w' => e = .returned (.bool true) ∧ w' = w) := fun w => kn_clo w
  have KS : Hid (∀ w, Calls Tryd.prog 21 #[.int .u32 (imm : Int), .int .i64 16] w fun e w' => e = .returned (.int .u32 ((Sw.sextI imm 16 : Nat) : Int)) ∧ w' = w) := fun w => Sw.rsext_any imm hi 16 w
  have hsx := sext16_lt imm
  generalize Sw.sextI imm 16 = sx at KS hsx ⊢
  obtain ⟨r, hr⟩ : ∃ r, r = workN 28 ⟨s, t, imm, sx, sa, rd⟩ := ⟨_, rfl⟩
  rw [← hr]
  have HR : Hid (r = some ((leadN s 1))) := hr
  clear hr
  have K1 : Hid (∀ w, Calls Tryd.prog 25 #[.agg #[.string ⟨#[99, 108, 111]⟩, .int .i64 rs, .int .i64 rt, .int .i64 rd, .int .i64 sa, .int .u32 (imm : Int)], .int .u32 (s : Int), .int .u32 (t : Int)] w fun e w' => e = .returned (.int .u32 ((leadN s 1) : Nat)) ∧ Below w.heap.size w w') := fun w => s25_clo rs rt rd sa imm s t hi hs ht hsa hrd hle w
  obtain ⟨o, ho⟩ : ∃ o, o = (leadN s 1) := ⟨_, rfl⟩
  rw [← ho] at K1 HR
  clear ho
  clear hb hz hi hs ht hle hsa hrd hE hsx
  go_enter Tryd.func9, Tryd.ntmps9
  go_wp2_with fail
  refine KE.mono ?_
  rintro e w3 ⟨rfl, hb3⟩
  have d0 := keep_cell hb3 d0
  have d1 := keep_cell hb3 d1
  have d2 := keep_cell hb3 d2
  have d3 := keep_cell hb3 d3
  have d4 := keep_cell hb3 d4
  have d5 := keep_cell hb3 d5
  have HB3 : Hid (Below w.heap.size w w3) := below_tr HB.out hb3
  clear hb3 KE
  go_wp2_with fail
  refine (KN.out _).mono ?_
  rintro e w9 ⟨rfl, rfl⟩
  go_wp2_with fail
  refine (KS.out _).mono ?_
  rintro e w9 ⟨rfl, rfl⟩
  go_wp2_with fail
  refine (K1.out _).mono ?_
  rintro e w4 ⟨rfl, hb4⟩
  have HB4 : Hid (Below w.heap.size w w4) := below_tr HB3.out hb4
  clear hb4
  go_wp2
  go_ret2
  exact ⟨(by rw [HR.out]; rfl), HB4.out⟩
set_option maxHeartbeats 1000000 in
theorem r9_ext (rs rt rd sa : Int) (imm s t E : Nat) (hi : imm < 4294967296) (hs : s < 4294967296) (ht : t < 4294967296) (hsa : 0 ≤ sa ∧ sa < 32) (hrd : 0 ≤ rd ∧ rd < 32) (hle : sa ≤ rd ∨ True) (hE : ∀ w, Calls Tryd.prog 20 #[.agg #[.string ⟨#[101, 120, 116]⟩, .int .i64 rs, .int .i64 rt, .int .i64 rd, .int .i64 sa, .int .u32 (imm : Int)]] w fun e w' => e = .returned (.tuple #[.int .u32 (E : Int), .bool true]) ∧ Below w.heap.size w w') (w : World) :
    Calls Tryd.prog 9 #[.agg #[.string ⟨#[101, 120, 116]⟩, .int .i64 rs, .int .i64 rt, .int .i64 rd, .int .i64 sa, .int .u32 (imm : Int)], .int .u32 (s : Int), .int .u32 (t : Int)] w fun e w' => e = .returned (.tuple #[.int .u32 ((workN 29 ⟨s, t, imm, Sw.sextI imm 16, sa, rd⟩).getD 0 : Int), .bool (workN 29 ⟨s, t, imm, Sw.sextI imm 16, sa, rd⟩).isSome]) ∧ Below w.heap.size w w' := by
  obtain ⟨W, hW, hb, hz, d0, d1, d2, d3, d4, d5⟩ := box6 w (.string ⟨#[101, 120, 116]⟩) (.int .i64 rs) (.int .i64 rt) (.int .i64 rd) (.int .i64 sa) (.int .u32 (imm : Int)) 24
  have HB : Hid (Below w.heap.size w W) := hb
  have KE := hE W
  have KN : Hid (∀ w, Calls Tryd.prog 11 #[.string ⟨#[101, 120, 116]⟩] w fun e w' => e = .returned (.bool true) ∧ w' = w) := fun w => kn_ext w
  have KS : Hid (∀ w, Calls Tryd.prog 21 #[.int .u32 (imm : Int), .int .i64 16] w fun e w' => e = .returned (.int .u32 ((Sw.sextI imm 16 : Nat) : Int)) ∧ w' = w) := fun w => Sw.rsext_any imm hi 16 w
  have hsx := sext16_lt imm
  generalize Sw.sextI imm 16 = sx at KS hsx ⊢
  obtain ⟨r, hr⟩ : ∃ r, r = workN 29 ⟨s, t, imm, sx, sa, rd⟩ := ⟨_, rfl⟩
  rw [← hr]
  have HR : Hid (r = some ((s / 2 ^ sa.toNat &&& lowN (rd.toNat + 1)))) := hr
  clear hr
  have K1 : Hid (∀ w, Calls Tryd.prog 25 #[.agg #[.string ⟨#[101, 120, 116]⟩, .int .i64 rs, .int .i64 rt, .int .i64 rd, .int .i64 sa, .int .u32 (imm : Int)], .int .u32 (s : Int), .int .u32 (t : Int)] w fun e w' => e = .returned (.int .u32 ((s / 2 ^ sa.toNat &&& lowN (rd.toNat + 1)) : Nat)) ∧ Below w.heap.size w w') := fun w => s25_ext rs rt rd sa imm s t hi hs ht hsa hrd hle w
  obtain ⟨o, ho⟩ : ∃ o, o = (s / 2 ^ sa.toNat &&& lowN (rd.toNat + 1)) := ⟨_, rfl⟩
  rw [← ho] at K1 HR
  clear ho
  clear hb hz hi hs ht hle hsa hrd hE hsx
  go_enter Tryd.func9, Tryd.ntmps9
  go_wp2_with fail
  refine KE.mono ?_
  rintro e w3 ⟨rfl, hb3⟩
  have d0 := keep_cell hb3 d0
  have d1 := keep_cell hb3 d1
  have d2 := keep_cell hb3 d2
  have d3 := keep_cell hb3 d3
  have d4 := keep_cell hb3 d4
  have d5 := keep_cell hb3 d5
  have HB3 : Hid (Below w.heap.size w w3) := below_tr HB.out hb3
  clear hb3 KE
  go_wp2_with fail
  refine (KN.out _).mono ?_
  rintro e w9 ⟨rfl, rfl⟩
  go_wp2_with fail
  refine (KS.out _).mono ?_
  rintro e w9 ⟨rfl, rfl⟩
  go_wp2_with fail
  refine (K1.out _).mono ?_
  rintro e w4 ⟨rfl, hb4⟩
  have HB4 : Hid (Below w.heap.size w w4) := below_tr HB3.out hb4
  clear hb4
  go_wp2
  go_ret2
  exact ⟨(by rw [HR.out]; rfl), HB4.out⟩
set_option maxHeartbeats 1000000 in
theorem r9_ins (rs rt rd sa : Int) (imm s t E : Nat) (hi : imm < 4294967296) (hs : s < 4294967296) (ht : t < 4294967296) (hsa : 0 ≤ sa ∧ sa < 32) (hrd : 0 ≤ rd ∧ rd < 32) (hle : sa ≤ rd) (hE : ∀ w, Calls Tryd.prog 20 #[.agg #[.string ⟨#[105, 110, 115]⟩, .int .i64 rs, .int .i64 rt, .int .i64 rd, .int .i64 sa, .int .u32 (imm : Int)]] w fun e w' => e = .returned (.tuple #[.int .u32 (E : Int), .bool true]) ∧ Below w.heap.size w w') (w : World) :
    Calls Tryd.prog 9 #[.agg #[.string ⟨#[105, 110, 115]⟩, .int .i64 rs, .int .i64 rt, .int .i64 rd, .int .i64 sa, .int .u32 (imm : Int)], .int .u32 (s : Int), .int .u32 (t : Int)] w fun e w' => e = .returned (.tuple #[.int .u32 ((workN 30 ⟨s, t, imm, Sw.sextI imm 16, sa, rd⟩).getD 0 : Int), .bool (workN 30 ⟨s, t, imm, Sw.sextI imm 16, sa, rd⟩).isSome]) ∧ Below w.heap.size w w' := by
  obtain ⟨W, hW, hb, hz, d0, d1, d2, d3, d4, d5⟩ := box6 w (.string ⟨#[105, 110, 115]⟩) (.int .i64 rs) (.int .i64 rt) (.int .i64 rd) (.int .i64 sa) (.int .u32 (imm : Int)) 24
  have HB : Hid (Below w.heap.size w W) := hb
  have KE := hE W
  have KN : Hid (∀ w, Calls Tryd.prog 11 #[.string ⟨#[105, 110, 115]⟩] w fun e w' => e = .returned (.bool true) ∧ w' = w) := fun w => kn_ins w
  have KS : Hid (∀ w, Calls Tryd.prog 21 #[.int .u32 (imm : Int), .int .i64 16] w fun e w' => e = .returned (.int .u32 ((Sw.sextI imm 16 : Nat) : Int)) ∧ w' = w) := fun w => Sw.rsext_any imm hi 16 w
  have hsx := sext16_lt imm
  generalize Sw.sextI imm 16 = sx at KS hsx ⊢
  obtain ⟨r, hr⟩ : ∃ r, r = workN 30 ⟨s, t, imm, sx, sa, rd⟩ := ⟨_, rfl⟩
  rw [← hr]
  have HR : Hid (r = some ((insM t (s * 2 ^ sa.toNat % 4294967296) (lowN (rd.toNat - sa.toNat + 1) * 2 ^ sa.toNat % 4294967296)))) := hr
  clear hr
  have K1 : Hid (∀ w, Calls Tryd.prog 25 #[.agg #[.string ⟨#[105, 110, 115]⟩, .int .i64 rs, .int .i64 rt, .int .i64 rd, .int .i64 sa, .int .u32 (imm : Int)], .int .u32 (s : Int), .int .u32 (t : Int)] w fun e w' => e = .returned (.int .u32 ((insM t (s * 2 ^ sa.toNat % 4294967296) (lowN (rd.toNat - sa.toNat + 1) * 2 ^ sa.toNat % 4294967296)) : Nat)) ∧ Below w.heap.size w w') := fun w => s25_ins rs rt rd sa imm s t hi hs ht hsa hrd hle w
  obtain ⟨o, ho⟩ : ∃ o, o = (insM t (s * 2 ^ sa.toNat % 4294967296) (lowN (rd.toNat - sa.toNat + 1) * 2 ^ sa.toNat % 4294967296)) := ⟨_, rfl⟩
  rw [← ho] at K1 HR
  clear ho
  clear hb hz hi hs ht hle hsa hrd hE hsx
  go_enter Tryd.func9, Tryd.ntmps9
  go_wp2_with fail
  refine KE.mono ?_
  rintro e w3 ⟨rfl, hb3⟩
  have d0 := keep_cell hb3 d0
  have d1 := keep_cell hb3 d1
  have d2 := keep_cell hb3 d2
  have d3 := keep_cell hb3 d3
  have d4 := keep_cell hb3 d4
  have d5 := keep_cell hb3 d5
  have HB3 : Hid (Below w.heap.size w w3) := below_tr HB.out hb3
  clear hb3 KE
  go_wp2_with fail
  refine (KN.out _).mono ?_
  rintro e w9 ⟨rfl, rfl⟩
  go_wp2_with fail
  refine (KS.out _).mono ?_
  rintro e w9 ⟨rfl, rfl⟩
  go_wp2_with fail
  refine (K1.out _).mono ?_
  rintro e w4 ⟨rfl, hb4⟩
  have HB4 : Hid (Below w.heap.size w w4) := below_tr HB3.out hb4
  clear hb4
  go_wp2
  go_ret2
  exact ⟨(by rw [HR.out]; rfl), HB4.out⟩
set_option maxHeartbeats 1000000 in
theorem r9_wsbh (rs rt rd sa : Int) (imm s t E : Nat) (hi : imm < 4294967296) (hs : s < 4294967296) (ht : t < 4294967296) (hsa : 0 ≤ sa ∧ sa < 32) (hrd : 0 ≤ rd ∧ rd < 32) (hle : sa ≤ rd ∨ True) (hE : ∀ w, Calls Tryd.prog 20 #[.agg #[.string ⟨#[119, 115, 98, 104]⟩, .int .i64 rs, .int .i64 rt, .int .i64 rd, .int .i64 sa, .int .u32 (imm : Int)]] w fun e w' => e = .returned (.tuple #[.int .u32 (E : Int), .bool true]) ∧ Below w.heap.size w w') (w : World) :
    Calls Tryd.prog 9 #[.agg #[.string ⟨#[119, 115, 98, 104]⟩, .int .i64 rs, .int .i64 rt, .int .i64 rd, .int .i64 sa, .int .u32 (imm : Int)], .int .u32 (s : Int), .int .u32 (t : Int)] w fun e w' => e = .returned (.tuple #[.int .u32 ((workN 31 ⟨s, t, imm, Sw.sextI imm 16, sa, rd⟩).getD 0 : Int), .bool (workN 31 ⟨s, t, imm, Sw.sextI imm 16, sa, rd⟩).isSome]) ∧ Below w.heap.size w w' := by
  obtain ⟨W, hW, hb, hz, d0, d1, d2, d3, d4, d5⟩ := box6 w (.string ⟨#[119, 115, 98, 104]⟩) (.int .i64 rs) (.int .i64 rt) (.int .i64 rd) (.int .i64 sa) (.int .u32 (imm : Int)) 24
  have HB : Hid (Below w.heap.size w W) := hb
  have KE := hE W
  have KN : Hid (∀ w, Calls Tryd.prog 11 #[.string ⟨#[119, 115, 98, 104]⟩] w fun e w' => e = .returned (.bool true) ∧ w' = w) := fun w => kn_wsbh w
  have KS : Hid (∀ w, Calls Tryd.prog 21 #[.int .u32 (imm : Int), .int .i64 16] w fun e w' => e = .returned (.int .u32 ((Sw.sextI imm 16 : Nat) : Int)) ∧ w' = w) := fun w => Sw.rsext_any imm hi 16 w
  have hsx := sext16_lt imm
  generalize Sw.sextI imm 16 = sx at KS hsx ⊢
  obtain ⟨r, hr⟩ : ∃ r, r = workN 31 ⟨s, t, imm, sx, sa, rd⟩ := ⟨_, rfl⟩
  rw [← hr]
  have HR : Hid (r = some ((((t &&& 16711935) * 256 % 4294967296) ||| (t / 256 &&& 16711935)))) := hr
  clear hr
  have K1 : Hid (∀ w, Calls Tryd.prog 25 #[.agg #[.string ⟨#[119, 115, 98, 104]⟩, .int .i64 rs, .int .i64 rt, .int .i64 rd, .int .i64 sa, .int .u32 (imm : Int)], .int .u32 (s : Int), .int .u32 (t : Int)] w fun e w' => e = .returned (.int .u32 ((((t &&& 16711935) * 256 % 4294967296) ||| (t / 256 &&& 16711935)) : Nat)) ∧ Below w.heap.size w w') := fun w => s25_wsbh rs rt rd sa imm s t hi hs ht hsa hrd hle w
  obtain ⟨o, ho⟩ : ∃ o, o = (((t &&& 16711935) * 256 % 4294967296) ||| (t / 256 &&& 16711935)) := ⟨_, rfl⟩
  rw [← ho] at K1 HR
  clear ho
  clear hb hz hi hs ht hle hsa hrd hE hsx
  go_enter Tryd.func9, Tryd.ntmps9
  go_wp2_with fail
  refine KE.mono ?_
  rintro e w3 ⟨rfl, hb3⟩
  have d0 := keep_cell hb3 d0
  have d1 := keep_cell hb3 d1
  have d2 := keep_cell hb3 d2
  have d3 := keep_cell hb3 d3
  have d4 := keep_cell hb3 d4
  have d5 := keep_cell hb3 d5
  have HB3 : Hid (Below w.heap.size w w3) := below_tr HB.out hb3
  clear hb3 KE
  go_wp2_with fail
  refine (KN.out _).mono ?_
  rintro e w9 ⟨rfl, rfl⟩
  go_wp2_with fail
  refine (KS.out _).mono ?_
  rintro e w9 ⟨rfl, rfl⟩
  go_wp2_with fail
  refine (K1.out _).mono ?_
  rintro e w4 ⟨rfl, hb4⟩
  have HB4 : Hid (Below w.heap.size w w4) := below_tr HB3.out hb4
  clear hb4
  go_wp2
  go_ret2
  exact ⟨(by rw [HR.out]; rfl), HB4.out⟩
set_option maxHeartbeats 1000000 in
theorem r9_seb (rs rt rd sa : Int) (imm s t E : Nat) (hi : imm < 4294967296) (hs : s < 4294967296) (ht : t < 4294967296) (hsa : 0 ≤ sa ∧ sa < 32) (hrd : 0 ≤ rd ∧ rd < 32) (hle : sa ≤ rd ∨ True) (hE : ∀ w, Calls Tryd.prog 20 #[.agg #[.string ⟨#[115, 101, 98]⟩, .int .i64 rs, .int .i64 rt, .int .i64 rd, .int .i64 sa, .int .u32 (imm : Int)]] w fun e w' => e = .returned (.tuple #[.int .u32 (E : Int), .bool true]) ∧ Below w.heap.size w w') (w : World) :
    Calls Tryd.prog 9 #[.agg #[.string ⟨#[115, 101, 98]⟩, .int .i64 rs, .int .i64 rt, .int .i64 rd, .int .i64 sa, .int .u32 (imm : Int)], .int .u32 (s : Int), .int .u32 (t : Int)] w fun e w' => e = .returned (.tuple #[.int .u32 ((workN 32 ⟨s, t, imm, Sw.sextI imm 16, sa, rd⟩).getD 0 : Int), .bool (workN 32 ⟨s, t, imm, Sw.sextI imm 16, sa, rd⟩).isSome]) ∧ Below w.heap.size w w' := by
  obtain ⟨W, hW, hb, hz, d0, d1, d2, d3, d4, d5⟩ := box6 w (.string ⟨#[115, 101, 98]⟩) (.int .i64 rs) (.int .i64 rt) (.int .i64 rd) (.int .i64 sa) (.int .u32 (imm : Int)) 24
  have HB : Hid (Below w.heap.size w W) := hb
  have KE := hE W
  have KN : Hid (∀ w, Calls Tryd.prog 11 #[.string ⟨#[115, 101, 98]⟩] w fun e w' => e = .returned (.bool true) ∧ w' = w) := fun w => kn_seb w
  have KS : Hid (∀ w, Calls Tryd.prog 21 #[.int .u32 (imm : Int), .int .i64 16] w fun e w' => e = .returned (.int .u32 ((Sw.sextI imm 16 : Nat) : Int)) ∧ w' = w) := fun w => Sw.rsext_any imm hi 16 w
  have hsx := sext16_lt imm
  generalize Sw.sextI imm 16 = sx at KS hsx ⊢
  obtain ⟨r, hr⟩ : ∃ r, r = workN 32 ⟨s, t, imm, sx, sa, rd⟩ := ⟨_, rfl⟩
  rw [← hr]
  have HR : Hid (r = some ((Sw.sextI t 8))) := hr
  clear hr
  have K1 : Hid (∀ w, Calls Tryd.prog 25 #[.agg #[.string ⟨#[115, 101, 98]⟩, .int .i64 rs, .int .i64 rt, .int .i64 rd, .int .i64 sa, .int .u32 (imm : Int)], .int .u32 (s : Int), .int .u32 (t : Int)] w fun e w' => e = .returned (.int .u32 ((Sw.sextI t 8) : Nat)) ∧ Below w.heap.size w w') := fun w => s25_seb rs rt rd sa imm s t hi hs ht hsa hrd hle w
  obtain ⟨o, ho⟩ : ∃ o, o = (Sw.sextI t 8) := ⟨_, rfl⟩
  rw [← ho] at K1 HR
  clear ho
  clear hb hz hi hs ht hle hsa hrd hE hsx
  go_enter Tryd.func9, Tryd.ntmps9
  go_wp2_with fail
  refine KE.mono ?_
  rintro e w3 ⟨rfl, hb3⟩
  have d0 := keep_cell hb3 d0
  have d1 := keep_cell hb3 d1
  have d2 := keep_cell hb3 d2
  have d3 := keep_cell hb3 d3
  have d4 := keep_cell hb3 d4
  have d5 := keep_cell hb3 d5
  have HB3 : Hid (Below w.heap.size w w3) := below_tr HB.out hb3
  clear hb3 KE
  go_wp2_with fail
  refine (KN.out _).mono ?_
  rintro e w9 ⟨rfl, rfl⟩
  go_wp2_with fail
  refine (KS.out _).mono ?_
  rintro e w9 ⟨rfl, rfl⟩
  go_wp2_with fail
  refine (K1.out _).mono ?_
  rintro e w4 ⟨rfl, hb4⟩
  have HB4 : Hid (Below w.heap.size w w4) := below_tr HB3.out hb4
  clear hb4
  go_wp2
  go_ret2
  exact ⟨(by rw [HR.out]; rfl), HB4.out⟩
set_option maxHeartbeats 1000000 in
theorem r9_seh (rs rt rd sa : Int) (imm s t E : Nat) (hi : imm < 4294967296) (hs : s < 4294967296) (ht : t < 4294967296) (hsa : 0 ≤ sa ∧ sa < 32) (hrd : 0 ≤ rd ∧ rd < 32) (hle : sa ≤ rd ∨ True) (hE : ∀ w, Calls Tryd.prog 20 #[.agg #[.string ⟨#[115, 101, 104]⟩, .int .i64 rs, .int .i64 rt, .int .i64 rd, .int .i64 sa, .int .u32 (imm : Int)]] w fun e w' => e = .returned (.tuple #[.int .u32 (E : Int), .bool true]) ∧ Below w.heap.size w w') (w : World) :
    Calls Tryd.prog 9 #[.agg #[.string ⟨#[115, 101, 104]⟩, .int .i64 rs, .int .i64 rt, .int .i64 rd, .int .i64 sa, .int .u32 (imm : Int)], .int .u32 (s : Int), .int .u32 (t : Int)] w fun e w' => e = .returned (.tuple #[.int .u32 ((workN 33 ⟨s, t, imm, Sw.sextI imm 16, sa, rd⟩).getD 0 : Int), .bool (workN 33 ⟨s, t, imm, Sw.sextI imm 16, sa, rd⟩).isSome]) ∧ Below w.heap.size w w' := by
  obtain ⟨W, hW, hb, hz, d0, d1, d2, d3, d4, d5⟩ := box6 w (.string ⟨#[115, 101, 104]⟩) (.int .i64 rs) (.int .i64 rt) (.int .i64 rd) (.int .i64 sa) (.int .u32 (imm : Int)) 24
  have HB : Hid (Below w.heap.size w W) := hb
  have KE := hE W
  have KN : Hid (∀ w, Calls Tryd.prog 11 #[.string ⟨#[115, 101, 104]⟩] w fun e w' => e = .returned (.bool true) ∧ w' = w) := fun w => kn_seh w
  have KS : Hid (∀ w, Calls Tryd.prog 21 #[.int .u32 (imm : Int), .int .i64 16] w fun e w' => e = .returned (.int .u32 ((Sw.sextI imm 16 : Nat) : Int)) ∧ w' = w) := fun w => Sw.rsext_any imm hi 16 w
  have hsx := sext16_lt imm
  generalize Sw.sextI imm 16 = sx at KS hsx ⊢
  obtain ⟨r, hr⟩ : ∃ r, r = workN 33 ⟨s, t, imm, sx, sa, rd⟩ := ⟨_, rfl⟩
  rw [← hr]
  have HR : Hid (r = some ((Sw.sextI t 16))) := hr
  clear hr
  have K1 : Hid (∀ w, Calls Tryd.prog 25 #[.agg #[.string ⟨#[115, 101, 104]⟩, .int .i64 rs, .int .i64 rt, .int .i64 rd, .int .i64 sa, .int .u32 (imm : Int)], .int .u32 (s : Int), .int .u32 (t : Int)] w fun e w' => e = .returned (.int .u32 ((Sw.sextI t 16) : Nat)) ∧ Below w.heap.size w w') := fun w => s25_seh rs rt rd sa imm s t hi hs ht hsa hrd hle w
  obtain ⟨o, ho⟩ : ∃ o, o = (Sw.sextI t 16) := ⟨_, rfl⟩
  rw [← ho] at K1 HR
  clear ho
  clear hb hz hi hs ht hle hsa hrd hE hsx
  go_enter Tryd.func9, Tryd.ntmps9
  go_wp2_with fail
  refine KE.mono ?_
  rintro e w3 ⟨rfl, hb3⟩
  have d0 := keep_cell hb3 d0
  have d1 := keep_cell hb3 d1
  have d2 := keep_cell hb3 d2
  have d3 := keep_cell hb3 d3
  have d4 := keep_cell hb3 d4
  have d5 := keep_cell hb3 d5
  have HB3 : Hid (Below w.heap.size w w3) := below_tr HB.out hb3
  clear hb3 KE
  go_wp2_with fail
  refine (KN.out _).mono ?_
  rintro e w9 ⟨rfl, rfl⟩
  go_wp2_with fail
  refine (KS.out _).mono ?_
  rintro e w9 ⟨rfl, rfl⟩
  go_wp2_with fail
  refine (K1.out _).mono ?_
  rintro e w4 ⟨rfl, hb4⟩
  have HB4 : Hid (Below w.heap.size w w4) := below_tr HB3.out hb4
  clear hb4
  go_wp2
  go_ret2
  exact ⟨(by rw [HR.out]; rfl), HB4.out⟩
end Go.Proofs.YtogokbefpgaciaaDoor
