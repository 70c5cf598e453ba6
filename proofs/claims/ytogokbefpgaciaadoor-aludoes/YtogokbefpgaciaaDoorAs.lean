/- What is proved here: the document's Do, and the walk of AluDoes. -/
import Derived.Test.YtogokbefpgaciaaDoorAr
import Derived.Test.YtogokbefpgaciaaDoorAi
namespace Go.Proofs.YtogokbefpgaciaaDoor
open Go.RowKit
set_option linter.unusedVariables false
set_option linter.unusedSimpArgs false
set_option maxRecDepth 100000
set_option maxHeartbeats 1000000 in
theorem r9_add (rs rt rd sa : Int) (imm s t E : Nat) (hi : imm < 4294967296) (hs : s < 4294967296) (ht : t < 4294967296) (hsa : 0 ≤ sa ∧ sa < 32) (hrd : 0 ≤ rd ∧ rd < 32) (hle : sa ≤ rd ∨ True) (hE : ∀ w, Calls Tryd.prog 20 #[.agg #[.string ⟨#[97, 100, 100]⟩, .int .i64 rs, .int .i64 rt, .int .i64 rd, .int .i64 sa, .int .u32 (imm : Int)]] w fun e w' => e = .returned (.tuple #[.int .u32 (E : Int), .bool true]) ∧ Below w.heap.size w w') (w : World) :
    Calls Tryd.prog 9 #[.agg #[.string ⟨#[97, 100, 100]⟩, .int .i64 rs, .int .i64 rt, .int .i64 rd, .int .i64 sa, .int .u32 (imm : Int)], .int .u32 (s : Int), .int .u32 (t : Int)] w fun e w' => e = .returned (.tuple #[.int .u32 ((workN 0 ⟨s, t, imm, Sw.sextI imm 16, sa, rd⟩).getD 0 : Int), .bool (workN 0 ⟨s, t, imm, Sw.sextI imm 16, sa, rd⟩).isSome]) ∧ Below w.heap.size w w' := by
  obtain ⟨W, hW, hb, hz, d0, d1, d2, d3, d4, d5⟩ := box6 w (.string ⟨#[97, 100, 100]⟩) (.int .i64 rs) (.int .i64 rt) (.int .i64 rd) (.int .i64 sa) (.int .u32 (imm : Int)) 24
  have HB : Hid (Below w.heap.size w W) := hb
  have KE := hE W
  have KN : Hid (∀ w, Calls Tryd.prog 11 #[.string ⟨#[97, 100, 100]⟩] w fun e w' => e = .returned (.bool true) ∧ w' = w) := fun w => kn_add w
  have KS : Hid (∀ w, Calls Tryd.prog 21 #[.int .u32 (imm : Int), .int .i64 16] w fun e w' => e = .returned (.int .u32 ((Sw.sextI imm 16 : Nat) : Int)) ∧ w' = w) := fun w => Sw.rsext_any imm hi 16 w
  have hsx := sext16_lt imm
  generalize Sw.sextI imm 16 = sx at KS hsx ⊢
  have K1 : Hid (∀ w, Calls Tryd.prog 22 #[.int .u32 (s : Int), .int .u32 (t : Int), .bool false] w fun e w' => e = .returned (.tuple #[.int .u32 ((workN 0 ⟨s, t, imm, sx, sa, rd⟩).getD 0 : Int), .bool (workN 0 ⟨s, t, imm, sx, sa, rd⟩).isSome]) ∧ w' = w) := fun w => over22 s t false hs ht w
  generalize workN 0 ⟨s, t, imm, sx, sa, rd⟩ = r at K1 ⊢
  clear hb hz hi hs ht hle hsa hrd hE hsx
  go_enter Tryd.func9, Tryd.ntmps9
  go_wp2_with fail
  refine KE.mono ?_
  rintro e w3 ⟨rfl, hb3⟩
  have d0 := keep_cell hb3 d0
  have d1 := keep_cell hb3 d1
  have d2 := keep_cell hb3 d2
  have d3 := keep_cell hb3 d3
  have d4 := keep_cell hb3 d4
  have d5 := keep_cell hb3 d5
  have HB3 : Hid (Below w.heap.size w w3) := below_tr HB.out hb3
  clear hb3 KE
  go_wp2_with fail
  refine (KN.out _).mono ?_
  rintro e w9 ⟨rfl, rfl⟩
  go_wp2_with fail
  refine (KS.out _).mono ?_
  rintro e w9 ⟨rfl, rfl⟩
  go_wp2_with fail
  refine (K1.out _).mono ?_
  rintro e w9 ⟨rfl, rfl⟩
  go_wp2
  go_ret2
  exact ⟨rfl, HB3.out⟩
set_option maxHeartbeats 1000000 in
theorem r9_sub (rs rt rd sa : Int) (imm s t E : Nat) (hi : imm < 4294967296) (hs : s < 4294967296) (ht : t < 4294967296) (hsa : 0 ≤ sa ∧ sa < 32) (hrd : 0 ≤ rd ∧ rd < 32) (hle : sa ≤ rd ∨ True) (hE : ∀ w, Calls Tryd.prog 20 #[.agg #[.string ⟨#[115, 117, 98]⟩, .int .i64 rs, .int .i64 rt, .int .i64 rd, .int .i64 sa, .int .u32 (imm : Int)]] w fun e w' => e = .returned (.tuple #[.int .u32 (E : Int), .bool true]) ∧ Below w.heap.size w w') (w : World) :
    Calls Tryd.prog 9 #[.agg #[.string ⟨#[115, 117, 98]⟩, .int .i64 rs, .int .i64 rt, .int .i64 rd, .int .i64 sa, .int .u32 (imm : Int)], .int .u32 (s : Int), .int .u32 (t : Int)] w fun e w' => e = .returned (.tuple #[.int .u32 ((workN 1 ⟨s, t, imm, Sw.sextI imm 16, sa, rd⟩).getD 0 : Int), .bool (workN 1 ⟨s, t, imm, Sw.sextI imm 16, sa, rd⟩).isSome]) ∧ Below w.heap.size w w' := by
  obtain ⟨W, hW, hb, hz, d0, d1, d2, d3, d4, d5⟩ := box6 w (.string ⟨#[115, 117, 98]⟩) (.int .i64 rs) (.int .i64 rt) (.int .i64 rd) (.int .i64 sa) (.int .u32 (imm : Int)) 24
  have HB : Hid (Below w.heap.size w W) := hb
  have KE := hE W
  have KN : Hid (∀ w, Calls Tryd.prog 11 #[.string ⟨#[115, 117, 98]⟩] w fun e w' => e = .returned (.bool true) ∧ w' = w) := fun w => kn_sub w
  have KS : Hid (∀ w, Calls Tryd.prog 21 #[.int .u32 (imm : Int), .int .i64 16] w fun e w' => e = .returned (.int .u32 ((Sw.sextI imm 16 : Nat) : Int)) ∧ w' = w) := fun w => Sw.rsext_any imm hi 16 w
  have hsx := sext16_lt imm
  generalize Sw.sextI imm 16 = sx at KS hsx ⊢
  have K1 : Hid (∀ w, Calls Tryd.prog 22 #[.int .u32 (s : Int), .int .u32 (t : Int), .bool true] w fun e w' => e = .returned (.tuple #[.int .u32 ((workN 1 ⟨s, t, imm, sx, sa, rd⟩).getD 0 : Int), .bool (workN 1 ⟨s, t, imm, sx, sa, rd⟩).isSome]) ∧ w' = w) := fun w => over22 s t true hs ht w
  generalize workN 1 ⟨s, t, imm, sx, sa, rd⟩ = r at K1 ⊢
  clear hb hz hi hs ht hle hsa hrd hE hsx
  go_enter Tryd.func9, Tryd.ntmps9
  go_wp2_with fail
  refine KE.mono ?_
  rintro e w3 ⟨rfl, hb3⟩
  have d0 := keep_cell hb3 d0
  have d1 := keep_cell hb3 d1
  have d2 := keep_cell hb3 d2
  have d3 := keep_cell hb3 d3
  have d4 := keep_cell hb3 d4
  have d5 := keep_cell hb3 d5
  have HB3 : Hid (Below w.heap.size w w3) := below_tr HB.out hb3
  clear hb3 KE
  go_wp2_with fail
  refine (KN.out _).mono ?_
  rintro e w9 ⟨rfl, rfl⟩
  go_wp2_with fail
  refine (KS.out _).mono ?_
  rintro e w9 ⟨rfl, rfl⟩
  go_wp2_with fail
  refine (K1.out _).mono ?_
  rintro e w9 ⟨rfl, rfl⟩
  go_wp2
  go_ret2
  exact ⟨rfl, HB3.out⟩
set_option maxHeartbeats 1000000 in
theorem r9_addi (rs rt rd sa : Int) (imm s t E : Nat) (hi : imm < 4294967296) (hs : s < 4294967296) (ht : t < 4294967296) (hsa : 0 ≤ sa ∧ sa < 32) (hrd : 0 ≤ rd ∧ rd < 32) (hle : sa ≤ rd ∨ True) (hE : ∀ w, Calls Tryd.prog 20 #[.agg #[.string ⟨#[97, 100, 100, 105]⟩, .int .i64 rs, .int .i64 rt, .int .i64 rd, .int .i64 sa, .int .u32 (imm : Int)]] w fun e w' => e = .returned (.tuple #[.int .u32 (E : Int), .bool true]) ∧ Below w.heap.size w w') (w : World) :
    Calls Tryd.prog 9 #[.agg #[.string ⟨#[97, 100, 100, 105]⟩, .int .i64 rs, .int .i64 rt, .int .i64 rd, .int .i64 sa, .int .u32 (imm : Int)], .int .u32 (s : Int), .int .u32 (t : Int)] w fun e w' => e = .returned (.tuple #[.int .u32 ((workN 2 ⟨s, t, imm, Sw.sextI imm 16, sa, rd⟩).getD 0 : Int), .bool (workN 2 ⟨s, t, imm, Sw.sextI imm 16, sa, rd⟩).isSome]) ∧ Below w.heap.size w w' := by
  obtain ⟨W, hW, hb, hz, d0, d1, d2, d3, d4, d5⟩ := box6 w (.string ⟨#[97, 100, 100, 105]⟩) (.int .i64 rs) (.int .i64 rt) (.int .i64 rd) (.int .i64 sa) (.int .u32 (imm : Int)) 24
  have HB : Hid (Below w.heap.size w W) := hb
  have KE := hE W
  have KN : Hid (∀ w, Calls Tryd.prog 11 #[.string ⟨#[97, 100, 100, 105]⟩] w fun e w' => e = .returned (.bool true) ∧ w' = w) := fun w => kn_addi w
  have KS : Hid (∀ w, Calls Tryd.prog 21 #[.int .u32 (imm : Int), .int .i64 16] w fun e w' => e = .returned (.int .u32 ((Sw.sextI imm 16 : Nat) : Int)) ∧ w' = w) := fun w => Sw.rsext_any imm hi 16 w
  have hsx := sext16_lt imm
  generalize Sw.sextI imm 16 = sx at KS hsx ⊢
  have K1 : Hid (∀ w, Calls Tryd.prog 22 #[.int .u32 (s : Int), .int .u32 (sx : Int), .bool false] w fun e w' => e = .returned (.tuple #[.int .u32 ((workN 2 ⟨s, t, imm, sx, sa, rd⟩).getD 0 : Int), .bool (workN 2 ⟨s, t, imm, sx, sa, rd⟩).isSome]) ∧ w' = w) := fun w => over22 s sx false hs hsx w
  generalize workN 2 ⟨s, t, imm, sx, sa, rd⟩ = r at K1 ⊢
  clear hb hz hi hs ht hle hsa hrd hE hsx
  go_enter Tryd.func9, Tryd.ntmps9
  go_wp2_with fail
  refine KE.mono ?_
  rintro e w3 ⟨rfl, hb3⟩
  have d0 := keep_cell hb3 d0
  have d1 := keep_cell hb3 d1
  have d2 := keep_cell hb3 d2
  have d3 := keep_cell hb3 d3
  have d4 := keep_cell hb3 d4
  have d5 := keep_cell hb3 d5
  have HB3 : Hid (Below w.heap.size w w3) := below_tr HB.out hb3
  clear hb3 KE
  go_wp2_with fail
  refine (KN.out _).mono ?_
  rintro e w9 ⟨rfl, rfl⟩
  go_wp2_with fail
  refine (KS.out _).mono ?_
  rintro e w9 ⟨rfl, rfl⟩
  go_wp2_with fail
  refine (K1.out _).mono ?_
  rintro e w9 ⟨rfl, rfl⟩
  go_wp2
  go_ret2
  exact ⟨rfl, HB3.out⟩
set_option maxHeartbeats 1000000 in
theorem r9_addu (rs rt rd sa : Int) (imm s t E : Nat) (hi : imm < 4294967296) (hs : s < 4294967296) (ht : t < 4294967296) (hsa : 0 ≤ sa ∧ sa < 32) (hrd : 0 ≤ rd ∧ rd < 32) (hle : sa ≤ rd ∨ True) (hE : ∀ w, Calls Tryd.prog 20 #[.agg #[.string ⟨#[97, 100, 100, 117]⟩, .int .i64 rs, .int .i64 rt, .int .i64 rd, .int .i64 sa, .int .u32 (imm : Int)]] w fun e w' => e = .returned (.tuple #[.int .u32 (E : Int), .bool true]) ∧ Below w.heap.size w w') (w : World) :
    Calls Tryd.prog 9 #[.agg #[.string ⟨#[97, 100, 100, 117]⟩, .int .i64 rs, .int .i64 rt, .int .i64 rd, .int .i64 sa, .int .u32 (imm : Int)], .int .u32 (s : Int), .int .u32 (t : Int)] w fun e w' => e = .returned (.tuple #[.int .u32 ((workN 3 ⟨s, t, imm, Sw.sextI imm 16, sa, rd⟩).getD 0 : Int), .bool (workN 3 ⟨s, t, imm, Sw.sextI imm 16, sa, rd⟩).isSome]) ∧ Below w.heap.size w w' := by
  obtain ⟨W, hW, hb, hz, d0, d1, d2, d3, d4, d5⟩ := box6 w (.string ⟨#[97, 100, 100, 117]⟩) (.int .i64 rs) (.int .i64 rt) (.int .i64 rd) (.int .i64 sa) (.int .u32 (imm : Int)) 24
  have HB : Hid (Below w.heap.size w W) := hb
  have KE := hE W
  have KN : Hid (∀ w, Calls Tryd.prog 11 #[.string ⟨#[97, 100, 100, 117]⟩] w fun e w' => e = .returned (.bool true) ∧ w' = w) := fun w => kn_addu w
  have KS : Hid (∀ w, Calls Tryd.prog 21 #[.int .u32 (imm : Int), .int .i64 16] w fun e w' => e = .returned (.int .u32 ((Sw.sextI imm 16 : Nat) : Int)) ∧ w' = w) := fun w => Sw.rsext_any imm hi 16 w
  have hsx := sext16_lt imm
  generalize Sw.sextI imm 16 = sx at KS hsx ⊢
  have h : Hid (((s : Int) + (t : Int)) % 4294967296 = (((s + t) % 4294967296 : Nat) : Int)) := by show _ = _; omega
  obtain ⟨r, hr⟩ : ∃ r, r = workN 3 ⟨s, t, imm, sx, sa, rd⟩ := ⟨_, rfl⟩
  rw [← hr]
  have HR : Hid (r = some (((s + t) % 4294967296))) := hr
  clear hr
  clear hb hz hi hs ht hle hsa hrd hE hsx
  go_enter Tryd.func9, Tryd.ntmps9
  go_wp2_with fail
  refine KE.mono ?_
  rintro e w3 ⟨rfl, hb3⟩
  have d0 := keep_cell hb3 d0
  have d1 := keep_cell hb3 d1
  have d2 := keep_cell hb3 d2
  have d3 := keep_cell hb3 d3
  have d4 := keep_cell hb3 d4
  have d5 := keep_cell hb3 d5
  have HB3 : Hid (Below w.heap.size w w3) := below_tr HB.out hb3
  clear hb3 KE
  go_wp2_with fail
  refine (KN.out _).mono ?_
  rintro e w9 ⟨rfl, rfl⟩
  go_wp2_with fail
  refine (KS.out _).mono ?_
  rintro e w9 ⟨rfl, rfl⟩
  go_wp2
  go_ret2
  exact ⟨(by rw [HR.out]; exact congrArg (fun z => Ending.returned (.tuple #[.int .u32 z, .bool true])) h.out), HB3.out⟩
set_option maxHeartbeats 1000000 in
theorem r9_subu (rs rt rd sa : Int) (imm s t E : Nat) (hi : imm < 4294967296) (hs : s < 4294967296) (ht : t < 4294967296) (hsa : 0 ≤ sa ∧ sa < 32) (hrd : 0 ≤ rd ∧ rd < 32) (hle : sa ≤ rd ∨ True) (hE : ∀ w, Calls Tryd.prog 20 #[.agg #[.string ⟨#[115, 117, 98, 117]⟩, .int .i64 rs, .int .i64 rt, .int .i64 rd, .int .i64 sa, .int .u32 (imm : Int)]] w fun e w' => e = .returned (.tuple #[.int .u32 (E : Int), .bool true]) ∧ Below w.heap.size w w') (w : World) :
    Calls Tryd.prog 9 #[.agg #[.string ⟨#[115, 117, 98, 117]⟩, .int .i64 rs, .int .i64 rt, .int .i64 rd, .int .i64 sa, .int .u32 (imm : Int)], .int .u32 (s : Int), .int .u32 (t : Int)] w fun e w' => e = .returned (.tuple #[.int .u32 ((workN 4 ⟨s, t, imm, Sw.sextI imm 16, sa, rd⟩).getD 0 : Int), .bool (workN 4 ⟨s, t, imm, Sw.sextI imm 16, sa, rd⟩).isSome]) ∧ Below w.heap.size w w' := by
  obtain ⟨W, hW, hb, hz, d0, d1, d2, d3, d4, d5⟩ := box6 w (.string ⟨#[115, 117, 98, 117]⟩) (.int .i64 rs) (.int .i64 rt) (.int .i64 rd) (.int .i64 sa) (.int .u32 (imm : Int)) 24
  have HB : Hid (Below w.heap.size w W) := hb
  have KE := hE W
  have KN : Hid (∀ w, Calls Tryd.prog 11 #[.string ⟨#[115, 117, 98, 117]⟩] w fun e w' => e = .returned (.bool true) ∧ w' = w) := fun w => kn_subu w
  have KS : Hid (∀ w, Calls Tryd.prog 21 #[.int .u32 (imm : Int), .int .i64 16] w fun e w' => e = .returned (.int .u32 ((Sw.sextI imm 16 : Nat) : Int)) ∧ w' = w) := fun w => Sw.rsext_any imm hi 16 w
  have hsx := sext16_lt imm
  generalize Sw.sextI imm 16 = sx at KS hsx ⊢
  have h : Hid (((s : Int) - (t : Int)) % 4294967296 = (((s + (4294967296 - t)) % 4294967296 : Nat) : Int)) := by show _ = _; omega
  obtain ⟨r, hr⟩ : ∃ r, r = workN 4 ⟨s, t, imm, sx, sa, rd⟩ := ⟨_, rfl⟩
  rw [← hr]
  have HR : Hid (r = some (((s + (4294967296 - t)) % 4294967296))) := hr
  clear hr
  clear hb hz hi hs ht hle hsa hrd hE hsx
  go_enter Tryd.func9, Tryd.ntmps9
  go_wp2_with fail
  refine KE.mono ?_
  rintro e w3 ⟨rfl, hb3⟩
  have d0 := keep_cell hb3 d0
  have d1 := keep_cell hb3 d1
  have d2 := keep_cell hb3 d2
  have d3 := keep_cell hb3 d3
  have d4 := keep_cell hb3 d4
  have d5 := keep_cell hb3 d5
  have HB3 : Hid (Below w.heap.size w w3) := below_tr HB.out hb3
  clear hb3 KE
  go_wp2_with fail
  refine (KN.out _).mono ?_
  rintro e w9 ⟨rfl, rfl⟩
  go_wp2_with fail
  refine (KS.out _).mono ?_
  rintro e w9 ⟨rfl, rfl⟩
  go_wp2
  go_ret2
  exact ⟨(by rw [HR.out]; exact congrArg (fun z => Ending.returned (.tuple #[.int .u32 z, .bool true])) h.out), HB3.out⟩
set_option maxHeartbeats 1000000 in
theorem r9_addiu (rs rt rd sa : Int) (imm s t E : Nat) (hi : imm < 4294967296) (hs : s < 4294967296) (ht : t < 4294967296) (hsa : 0 ≤ sa ∧ sa < 32) (hrd : 0 ≤ rd ∧ rd < 32) (hle : sa ≤ rd ∨ True) (hE : ∀ w, Calls Tryd.prog 20 #[.agg #[.string ⟨#[97, 100, 100, 105, 117]⟩, .int .i64 rs, .int .i64 rt, .int .i64 rd, .int .i64 sa, .int .u32 (imm : Int)]] w fun e w' => e = .returned (.tuple #[.int .u32 (E : Int), .bool true]) ∧ Below w.heap.size w w') (w : World) :
    Calls Tryd.prog 9 #[.agg #[.string ⟨#[97, 100, 100, 105, 117]⟩, .int .i64 rs, .int .i64 rt, .int .i64 rd, .int .i64 sa, .int .u32 (imm : Int)], .int .u32 (s : Int), .int .u32 (t : Int)] w fun e w' => e = .returned (.tuple #[.int .u32 ((workN 5 ⟨s, t, imm, Sw.sextI imm 16, sa, rd⟩).getD 0 : Int), .bool (workN 5 ⟨s, t, imm, Sw.sextI imm 16, sa, rd⟩).isSome]) ∧ Below w.heap.size w w' := by
  obtain ⟨W, hW, hb, hz, d0, d1, d2, d3, d4, d5⟩ := box6 w (.string ⟨#[97, 100, 100, 105, 117]⟩) (.int .i64 rs) (.int .i64 rt) (.int .i64 rd) (.int .i64 sa) (.int .u32 (imm : Int)) 24
  have HB : Hid (Below w.heap.size w W) := hb
  have KE := hE W
  have KN : Hid (∀ w, Calls Tryd.prog 11 #[.string ⟨#[97, 100, 100, 105, 117]⟩] w fun e w' => e = .returned (.bool true) ∧ w' = w) := fun w => kn_addiu w
  have KS : Hid (∀ w, Calls Tryd.prog 21 #[.int .u32 (imm : Int), .int .i64 16] w fun e w' => e = .returned (.int .u32 ((Sw.sextI imm 16 : Nat) : Int)) ∧ w' = w) := fun w => Sw.rsext_any imm hi 16 w
  have hsx := sext16_lt imm
  generalize Sw.sextI imm 16 = sx at KS hsx ⊢
  have h : Hid (((s : Int) + (sx : Int)) % 4294967296 = (((s + sx) % 4294967296 : Nat) : Int)) := by show _ = _; omega
  obtain ⟨r, hr⟩ : ∃ r, r = workN 5 ⟨s, t, imm, sx, sa, rd⟩ := ⟨_, rfl⟩
  rw [← hr]
  have HR : Hid (r = some (((s + sx) % 4294967296))) := hr
  clear hr
  clear hb hz hi hs ht hle hsa hrd hE hsx
  go_enter Tryd.func9, Tryd.ntmps9
  go_wp2_with fail
  refine KE.mono ?_
  rintro e w3 ⟨rfl, hb3⟩
  have d0 := keep_cell hb3 d0
  have d1 := keep_cell hb3 d1
  have d2 := keep_cell hb3 d2
  have d3 := keep_cell hb3 d3
  have d4 := keep_cell hb3 d4
  have d5 := keep_cell hb3 d5
  have HB3 : Hid (Below w.heap.size w w3) := below_tr HB.out hb3
  clear hb3 KE
  go_wp2_with fail
  refine (KN.out _).mono ?_
  rintro e w9 ⟨rfl, rfl⟩
  go_wp2_with fail
  refine (KS.out _).mono ?_
  rintro e w9 ⟨rfl, rfl⟩
  go_wp2
  go_ret2
  exact ⟨(by rw [HR.out]; exact congrArg (fun z => Ending.returned (.tuple #[.int .u32 z, .bool true])) h.out), HB3.out⟩
set_option maxHeartbeats 1000000 in
theorem r9_and (rs rt rd sa : Int) (imm s t E : Nat) (hi : imm < 4294967296) (hs : s < 4294967296) (ht : t < 4294967296) (hsa : 0 ≤ sa ∧ sa < 32) (hrd : 0 ≤ rd ∧ rd < 32) (hle : sa ≤ rd ∨ True) (hE : ∀ w, Calls Tryd.prog 20 #[.agg #[.string ⟨#[97, 110, 100]⟩, .int .i64 rs, .int .i64 rt, .int .i64 rd, .int .i64 sa, .int .u32 (imm : Int)]] w fun e w' => e = .returned (.tuple #[.int .u32 (E : Int), .bool true]) ∧ Below w.heap.size w w') (w : World) :
    Calls Tryd.prog 9 #[.agg #[.string ⟨#[97, 110, 100]⟩, .int .i64 rs, .int .i64 rt, .int .i64 rd, .int .i64 sa, .int .u32 (imm : Int)], .int .u32 (s : Int), .int .u32 (t : Int)] w fun e w' => e = .returned (.tuple #[.int .u32 ((workN 6 ⟨s, t, imm, Sw.sextI imm 16, sa, rd⟩).getD 0 : Int), .bool (workN 6 ⟨s, t, imm, Sw.sextI imm 16, sa, rd⟩).isSome]) ∧ Below w.heap.size w w' := by
  obtain ⟨W, hW, hb, hz, d0, d1, d2, d3, d4, d5⟩ := box6 w (.string ⟨#[97, 110, 100]⟩) (.int .i64 rs) (.int .i64 rt) (.int .i64 rd) (.int .i64 sa) (.int .u32 (imm : Int)) 24
  have HB : Hid (Below w.heap.size w W) := hb
  have KE := hE W
  have KN : Hid (∀ w, Calls Tryd.prog 11 #[.string ⟨#[97, 110, 100]⟩] w fun e w' => e = .returned (.bool true) ∧ w' = w) := fun w => kn_and w
  have KS : Hid (∀ w, Calls Tryd.prog 21 #[.int .u32 (imm : Int), .int .i64 16] w fun e w' => e = .returned (.int .u32 ((Sw.sextI imm 16 : Nat) : Int)) ∧ w' = w) := fun w => Sw.rsext_any imm hi 16 w
  have hsx := sext16_lt imm
  generalize Sw.sextI imm 16 = sx at KS hsx ⊢
  have h : Hid (bits .and .u32 (s : Int) (t : Int) = ((s &&& t : Nat) : Int)) := by show _ = _; exact and_u32 s t hs ht
  obtain ⟨r, hr⟩ : ∃ r, r = workN 6 ⟨s, t, imm, sx, sa, rd⟩ := ⟨_, rfl⟩
  rw [← hr]
  have HR : Hid (r = some ((s &&& t))) := hr
  clear hr
  clear hb hz hi hs ht hle hsa hrd hE hsx
  go_enter Tryd.func9, Tryd.ntmps9
  go_wp2_with fail
  refine KE.mono ?_
  rintro e w3 ⟨rfl, hb3⟩
  have d0 := keep_cell hb3 d0
  have d1 := keep_cell hb3 d1
  have d2 := keep_cell hb3 d2
  have d3 := keep_cell hb3 d3
  have d4 := keep_cell hb3 d4
  have d5 := keep_cell hb3 d5
  have HB3 : Hid (Below w.heap.size w w3) := below_tr HB.out hb3
  clear hb3 KE
  go_wp2_with fail
  refine (KN.out _).mono ?_
  rintro e w9 ⟨rfl, rfl⟩
  go_wp2_with fail
  refine (KS.out _).mono ?_
  rintro e w9 ⟨rfl, rfl⟩
  go_wp2
  go_ret2
  exact ⟨(by rw [HR.out]; exact congrArg (fun z => Ending.returned (.tuple #[.int .u32 z, .bool true])) h.out), HB3.out⟩
set_option maxHeartbeats 1000000 in
theorem r9_or (rs rt rd sa : Int) (imm s t E : Nat) (hi : imm < 4294967296) (hs : s < 4294967296) (ht : t < 4294967296) (hsa : 0 ≤ sa ∧ sa < 32) (hrd : 0 ≤ rd ∧ rd < 32) (hle : sa ≤ rd ∨ True) (hE : ∀ w, Calls Tryd.prog 20 #[.agg #[.string ⟨#[111, 114]⟩, .int .i64 rs, .int .i64 rt, .int .i64 rd, .int .i64 sa, .int .u32 (imm : Int)]] w fun e w' => e = .returned (.tuple #[.int .u32 (E : Int), .bool true]) ∧ Below w.heap.size w w') (w : World) :
    Calls Tryd.prog 9 #[.agg #[.string ⟨#[111, 114]⟩, .int .i64 rs, .int .i64 rt, .int .i64 rd, .int .i64 sa, .int .u32 (imm : Int)], .int .u32 (s : Int), .int .u32 (t : Int)] w fun e w' => e = .returned (.tuple #[.int .u32 ((workN 7 ⟨s, t, imm, Sw.sextI imm 16, sa, rd⟩).getD 0 : Int), .bool (workN 7 ⟨s, t, imm, Sw.sextI imm 16, sa, rd⟩).isSome]) ∧ Below w.heap.size w w' := by
  obtain ⟨W, hW, hb, hz, d0, d1, d2, d3, d4, d5⟩ := box6 w (.string ⟨#[111, 114]⟩) (.int .i64 rs) (.int .i64 rt) (.int .i64 rd) (.int .i64 sa) (.int .u32 (imm : Int)) 24
  have HB : Hid (Below w.heap.size w W) := hb
  have KE := hE W
  have KN : Hid (∀ w, Calls Tryd.prog 11 #[.string ⟨#[111, 114]⟩] w fun e w' => e = .returned (.bool true) ∧ w' = w) := fun w => kn_or w
  have KS : Hid (∀ w, Calls Tryd.prog 21 #[.int .u32 (imm : Int), .int .i64 16] w fun e w' => e = .returned (.int .u32 ((Sw.sextI imm 16 : Nat) : Int)) ∧ w' = w) := fun w => Sw.rsext_any imm hi 16 w
  have hsx := sext16_lt imm
  generalize Sw.sextI imm 16 = sx at KS hsx ⊢
  have h : Hid (bits .or .u32 (s : Int) (t : Int) = ((s ||| t : Nat) : Int)) := by show _ = _; exact or_u32 s t hs ht
  obtain ⟨r, hr⟩ : ∃ r, r = workN 7 ⟨s, t, imm, sx, sa, rd⟩ := ⟨_, rfl⟩
  rw [← hr]
  have HR : Hid (r = some ((s ||| t))) := hr
  clear hr
  clear hb hz hi hs ht hle hsa hrd hE hsx
  go_enter Tryd.func9, Tryd.ntmps9
  go_wp2_with fail
  refine KE.mono ?_
  rintro e w3 ⟨rfl, hb3⟩
  have d0 := keep_cell hb3 d0
  have d1 := keep_cell hb3 d1
  have d2 := keep_cell hb3 d2
  have d3 := keep_cell hb3 d3
  have d4 := keep_cell hb3 d4
  have d5 := keep_cell hb3 d5
  have HB3 : Hid (Below w.heap.size w w3) := below_tr HB.out hb3
  clear hb3 KE
  go_wp2_with fail
  refine (KN.out _).mono ?_
  rintro e w9 ⟨rfl, rfl⟩
  go_wp2_with fail
  refine (KS.out _).mono ?_
  rintro e w9 ⟨rfl, rfl⟩
  go_wp2
  go_ret2
  exact ⟨(by rw [HR.out]; exact congrArg (fun z => Ending.returned (.tuple #[.int .u32 z, .bool true])) h.out), HB3.out⟩
set_option maxHeartbeats 1000000 in
theorem r9_xor (rs rt rd sa : Int) (imm s t E : Nat) (hi : imm < 4294967296) (hs : s < 4294967296) (ht : t < 4294967296) (hsa : 0 ≤ sa ∧ sa < 32) (hrd : 0 ≤ rd ∧ rd < 32) (hle : sa ≤ rd ∨ True) (hE : ∀ w, Calls Tryd.prog 20 #[.agg #[.string ⟨#[120, 111, 114]⟩, .int .i64 rs, .int .i64 rt, .int .i64 rd, .int .i64 sa, .int .u32 (imm : Int)]] w fun e w' => e = .returned (.tuple #[.int .u32 (E : Int), .bool true]) ∧ Below w.heap.size w w') (w : World) :
    Calls Tryd.prog 9 #[.agg #[.string ⟨#[120, 111, 114]⟩, .int .i64 rs, .int .i64 rt, .int .i64 rd, .int .i64 sa, .int .u32 (imm : Int)], .int .u32 (s : Int), .int .u32 (t : Int)] w fun e w' => e = .returned (.tuple #[.int .u32 ((workN 8 ⟨s, t, imm, Sw.sextI imm 16, sa, rd⟩).getD 0 : Int), .bool (workN 8 ⟨s, t, imm, Sw.sextI imm 16, sa, rd⟩).isSome]) ∧ Below w.heap.size w w' := by
  obtain ⟨W, hW, hb, hz, d0, d1, d2, d3, d4, d5⟩ := box6 w (.string ⟨#[120, 111, 114]⟩) (.int .i64 rs) (.int .i64 rt) (.int .i64 rd) (.int .i64 sa) (.int .u32 (imm : Int)) 24
  have HB : Hid (Below w.heap.size w W) := hb
  have KE := hE W
  have KN : Hid (∀ w, Calls Tryd.prog 11 #[.string ⟨#[120, 111, 114]⟩] w fun e w' => e = .returned (.bool true) ∧ w' = w) := fun w => kn_xor w
  have KS : Hid (∀ w, Calls Tryd.prog 21 #[.int .u32 (imm : Int), .int .i64 16] w fun e w' => e = .returned (.int .u32 ((Sw.sextI imm 16 : Nat) : Int)) ∧ w' = w) := fun w => Sw.rsext_any imm hi 16 w
  have hsx := sext16_lt imm
  generalize Sw.sextI imm 16 = sx at KS hsx ⊢
  have h : Hid (bits .xor .u32 (s : Int) (t : Int) = ((s ^^^ t : Nat) : Int)) := by show _ = _; exact xor_u32 s t hs ht
  obtain ⟨r, hr⟩ : ∃ r, r = workN 8 ⟨s, t, imm, sx, sa, rd⟩ := ⟨_, rfl⟩
  rw [← hr]
  have HR : Hid (r = some ((s ^^^ t))) := hr
  clear hr
  clear hb hz hi hs ht hle hsa hrd hE hsx
  go_enter Tryd.func9, Tryd.ntmps9
  go_wp2_with fail
  refine KE.mono ?_
  rintro e w3 ⟨rfl, hb3⟩
  have d0 := keep_cell hb3 d0
  have d1 := keep_cell hb3 d1
  have d2 := keep_cell hb3 d2
  have d3 := keep_cell hb3 d3
  have d4 := keep_cell hb3 d4
  have d5 := keep_cell hb3 d5
  have HB3 : Hid (Below w.heap.size w w3) := below_tr HB.out hb3
  clear hb3 KE
  go_wp2_with fail
  refine (KN.out _).mono ?_
  rintro e w9 ⟨rfl, rfl⟩
  go_wp2_with fail
  refine (KS.out _).mono ?_
  rintro e w9 ⟨rfl, rfl⟩
  go_wp2
  go_ret2
  exact ⟨(by rw [HR.out]; exact congrArg (fun z => Ending.returned (.tuple #[.int .u32 z, .bool true])) h.out), HB3.out⟩
set_option maxHeartbeats 1000000 in
theorem r9_nor (rs rt rd sa : Int) (imm s t E : Nat) (hi : imm < 4294967296) (hs : s < 4294967296) (ht : t < 4294967296) (hsa : 0 ≤ sa ∧ sa < 32) (hrd : 0 ≤ rd ∧ rd < 32) (hle : sa ≤ rd ∨ True) (hE : ∀ w, Calls Tryd.prog 20 #[.agg #[.string ⟨#[110, 111, 114]⟩, .int .i64 rs, .int .i64 rt, .int .i64 rd, .int .i64 sa, .int .u32 (imm : Int)]] w fun e w' => e = .returned (.tuple #[.int .u32 (E : Int), .bool true]) ∧ Below w.heap.size w w') (w : World) :
    Calls Tryd.prog 9 #[.agg #[.string ⟨#[110, 111, 114]⟩, .int .i64 rs, .int .i64 rt, .int .i64 rd, .int .i64 sa, .int .u32 (imm : Int)], .int .u32 (s : Int), .int .u32 (t : Int)] w fun e w' => e = .returned (.tuple #[.int .u32 ((workN 9 ⟨s, t, imm, Sw.sextI imm 16, sa, rd⟩).getD 0 : Int), .bool (workN 9 ⟨s, t, imm, Sw.sextI imm 16, sa, rd⟩).isSome]) ∧ Below w.heap.size w w' := by
  obtain ⟨W, hW, hb, hz, d0, d1, d2, d3, d4, d5⟩ := box6 w (.string ⟨#[110, 111, 114]⟩) (.int .i64 rs) (.int .i64 rt) (.int .i64 rd) (.int .i64 sa) (.int .u32 (imm : Int)) 24
  have HB : Hid (Below w.heap.size w W) := hb
  have KE := hE W
  have KN : Hid (∀ w, Calls Tryd.prog 11 #[.string ⟨#[110, 111, 114]⟩] w fun e w' => e = .returned (.bool true) ∧ w' = w) := fun w => kn_nor w
  have KS : Hid (∀ w, Calls Tryd.prog 21 #[.int .u32 (imm : Int), .int .i64 16] w fun e w' => e = .returned (.int .u32 ((Sw.sextI imm 16 : Nat) : Int)) ∧ w' = w) := fun w => Sw.rsext_any imm hi 16 w
  have hsx := sext16_lt imm
  generalize Sw.sextI imm 16 = sx at KS hsx ⊢
  have h : Hid ((4294967295 - bits .or .u32 (s : Int) (t : Int)) % 4294967296 = ((4294967295 - (s ||| t) : Nat) : Int)) := by show _ = _; rw [or_u32 s t hs ht]; have := or_lt s t hs ht; omega
  obtain ⟨r, hr⟩ : ∃ r, r = workN 9 ⟨s, t, imm, sx, sa, rd⟩ := ⟨_, rfl⟩
  rw [← hr]
  have HR : Hid (r = some ((4294967295 - (s ||| t)))) := hr
  clear hr
  clear hb hz hi hs ht hle hsa hrd hE hsx
  go_enter Tryd.func9, Tryd.ntmps9
  go_wp2_with fail
  refine KE.mono ?_
  rintro e w3 ⟨rfl, hb3⟩
  have d0 := keep_cell hb3 d0
  have d1 := keep_cell hb3 d1
  have d2 := keep_cell hb3 d2
  have d3 := keep_cell hb3 d3
  have d4 := keep_cell hb3 d4
  have d5 := keep_cell hb3 d5
  have HB3 : Hid (Below w.heap.size w w3) := below_tr HB.out hb3
  clear hb3 KE
  go_wp2_with fail
  refine (KN.out _).mono ?_
  rintro e w9 ⟨rfl, rfl⟩
  go_wp2_with fail
  refine (KS.out _).mono ?_
  rintro e w9 ⟨rfl, rfl⟩
  go_wp2
  go_ret2
  exact ⟨(by rw [HR.out]; exact congrArg (fun z => Ending.returned (.tuple #[.int .u32 z, .bool true])) h.out), HB3.out⟩
set_option maxHeartbeats 1000000 in
theorem r9_andi (rs rt rd sa : Int) (imm s t E : Nat) (hi : imm < 4294967296) (hs : s < 4294967296) (ht : t < 4294967296) (hsa : 0 ≤ sa ∧ sa < 32) (hrd : 0 ≤ rd ∧ rd < 32) (hle : sa ≤ rd ∨ True) (hE : ∀ w, Calls Tryd.prog 20 #[.agg #[.string ⟨#[97, 110, 100, 105]⟩, .int .i64 rs, .int .i64 rt, .int .i64 rd, .int .i64 sa, .int .u32 (imm : Int)]] w fun e w' => e = .returned (.tuple #[.int .u32 (E : Int), .bool true]) ∧ Below w.heap.size w w') (w : World) :
    Calls Tryd.prog 9 #[.agg #[.string ⟨#[97, 110, 100, 105]⟩, .int .i64 rs, .int .i64 rt, .int .i64 rd, .int .i64 sa, .int .u32 (imm : Int)], .int .u32 (s : Int), .int .u32 (t : Int)] w fun e w' => e = .returned (.tuple #[.int .u32 ((workN 10 ⟨s, t, imm, Sw.sextI imm 16, sa, rd⟩).getD 0 : Int), .bool (workN 10 ⟨s, t, imm, Sw.sextI imm 16, sa, rd⟩).isSome]) ∧ Below w.heap.size w w' := by
  obtain ⟨W, hW, hb, hz, d0, d1, d2, d3, d4, d5⟩ := box6 w (.string ⟨#[97, 110, 100, 105]⟩) (.int .i64 rs) (.int .i64 rt) (.int .i64 rd) (.int .i64 sa) (.int .u32 (imm : Int)) 24
  have HB : Hid (Below w.heap.size w W) := hb
  have KE := hE W
  have KN : Hid (∀ w, Calls Tryd.prog 11 #[.string ⟨#[97, 110, 100, 105]⟩] w fun e w' => e = .returned (.bool true) ∧ w' = w) := fun w => kn_andi w
  have KS : Hid (∀ w, Calls Tryd.prog 21 #[.int .u32 (imm : Int), .int .i64 16] w fun e w' => e = .returned (.int .u32 ((Sw.sextI imm 16 : Nat) : Int)) ∧ w' = w) := fun w => Sw.rsext_any imm hi 16 w
  have hsx := sext16_lt imm
  generalize Sw.sextI imm 16 = sx at KS hsx ⊢
  have h : Hid (bits .and .u32 (s : Int) (imm : Int) = ((s &&& imm : Nat) : Int)) := by show _ = _; exact and_u32 s imm hs hi
  obtain ⟨r, hr⟩ : ∃ r, r = workN 10 ⟨s, t, imm, sx, sa, rd⟩ := ⟨_, rfl⟩
  rw [← hr]
  have HR : Hid (r = some ((s &&& imm))) := hr
  clear hr
  clear hb hz hi hs ht hle hsa hrd hE hsx
  go_enter Tryd.func9, Tryd.ntmps9
  go_wp2_with fail
  refine KE.mono ?_
  rintro e w3 ⟨rfl, hb3⟩
  have d0 := keep_cell hb3 d0
  have d1 := keep_cell hb3 d1
  have d2 := keep_cell hb3 d2
  have d3 := keep_cell hb3 d3
  have d4 := keep_cell hb3 d4
  have d5 := keep_cell hb3 d5
  have HB3 : Hid (Below w.heap.size w w3) := below_tr HB.out hb3
  clear hb3 KE
  go_wp2_with fail
  refine (KN.out _).mono ?_
  rintro e w9 ⟨rfl, rfl⟩
  go_wp2_with fail
  refine (KS.out _).mono ?_
  rintro e w9 ⟨rfl, rfl⟩
  go_wp2
  go_ret2
  exact ⟨(by rw [HR.out]; exact congrArg (fun z => Ending.returned (.tuple #[.int .u32 z, .bool true])) h.out), HB3.out⟩
set_option maxHeartbeats 1000000 in
theorem r9_ori (rs rt rd sa : Int) (imm s t E : Nat) (hi : imm < 4294967296) (hs : s < 4294967296) (ht : t < 4294967296) (hsa : 0 ≤ sa ∧ sa < 32) (hrd : 0 ≤ rd ∧ rd < 32) (hle : sa ≤ rd ∨ True) (hE : ∀ w, Calls Tryd.prog 20 #[.agg #[.string ⟨#[111, 114, 105]⟩, .int .i64 rs, .int .i64 rt, .int .i64 rd, .int .i64 sa, .int .u32 (imm : Int)]] w fun e w' => e = .returned (.tuple #[.int .u32 (E : Int), .bool true]) ∧ Below w.heap.size w w') (w : World) :
    Calls Tryd.prog 9 #[.agg #[.string ⟨#[111, 114, 105]⟩, .int .i64 rs, .int .i64 rt, .int .i64 rd, .int .i64 sa, .int .u32 (imm : Int)], .int .u32 (s : Int), .int .u32 (t : Int)] w fun e w' => e = .returned (.tuple #[.int .u32 ((workN 11 ⟨s, t, imm, Sw.sextI imm 16, sa, rd⟩).getD 0 : Int), .bool (workN 11 ⟨s, t, imm, Sw.sextI imm 16, sa, rd⟩).isSome]) ∧ Below w.heap.size w w' := by
  obtain ⟨W, hW, hb, hz, d0, d1, d2, d3, d4, d5⟩ := box6 w (.string ⟨#[111, 114, 105]⟩) (.int .i64 rs) (.int .i64 rt) (.int .i64 rd) (.int .i64 sa) (.int .u32 (imm : Int)) 24
  have HB : Hid (Below w.heap.size w W) := hb
  have KE := hE W
  have KN : Hid (∀ w, Calls Tryd.prog 11 #[.string ⟨#[111, 114, 105]⟩] w fun e w' => e = .returned (.bool true) ∧ w' = w) := fun w => kn_ori w
  have KS : Hid (∀ w, Calls Tryd.prog 21 #[.int .u32 (imm : Int), .int .i64 16] w fun e w' => e = .returned (.int .u32 ((Sw.sextI imm 16 : Nat) : Int)) ∧ w' = w) := fun w => Sw.rsext_any imm hi 16 w
  have hsx := sext16_lt imm
  generalize Sw.sextI imm 16 = sx at KS hsx ⊢
  have h : Hid (bits .or .u32 (s : Int) (imm : Int) = ((s ||| imm : Nat) : Int)) := by show _ = _; exact or_u32 s imm hs hi
  obtain ⟨r, hr⟩ : ∃ r, r = workN 11 ⟨s, t, imm, sx, sa, rd⟩ := ⟨_, rfl⟩
  rw [← hr]
  have HR : Hid (r = some ((s ||| imm))) := hr
  clear hr
  clear hb hz hi hs ht hle hsa hrd hE hsx
  go_enter Tryd.func9, Tryd.ntmps9
  go_wp2_with fail
  refine KE.mono ?_
  rintro e w3 ⟨rfl, hb3⟩
  have d0 := keep_cell hb3 d0
  have d1 := keep_cell hb3 d1
  have d2 := keep_cell hb3 d2
  have d3 := keep_cell hb3 d3
  have d4 := keep_cell hb3 d4
  have d5 := keep_cell hb3 d5
  have HB3 : Hid (Below w.heap.size w w3) := below_tr HB.out hb3
  clear hb3 KE
  go_wp2_with fail
  refine (KN.out _).mono ?_
  rintro e w9 ⟨rfl, rfl⟩
  go_wp2_with fail
  refine (KS.out _).mono ?_
  rintro e w9 ⟨rfl, rfl⟩
  go_wp2
  go_ret2
  exact ⟨(by rw [HR.out]; exact congrArg (fun z => Ending.returned (.tuple #[.int .u32 z, .bool true])) h.out), HB3.out⟩
set_option maxHeartbeats 1000000 in
theorem r9_xori (rs rt rd sa : Int) (imm s t E : Nat) (hi : imm < 4294967296) (hs : s < 4294967296) (ht : t < 4294967296) (hsa : 0 ≤ sa ∧ sa < 32) (hrd : 0 ≤ rd ∧ rd < 32) (hle : sa ≤ rd ∨ True) (hE : ∀ w, Calls Tryd.prog 20 #[.agg #[.string ⟨#[120, 111, 114, 105]⟩, .int .i64 rs, .int .i64 rt, .int .i64 rd, .int .i64 sa, .int .u32 (imm : Int)]] w fun e w' => e = .returned (.tuple #[.int .u32 (E : Int), .bool true]) ∧ Below w.heap.size w w') (w : World) :
    Calls Tryd.prog 9 #[.agg #[.string ⟨#[120, 111, 114, 105]⟩, .int .i64 rs, .int .i64 rt, .int .i64 rd, .int .i64 sa, .int .u32 (imm : Int)], .int .u32 (s : Int), .int .u32 (t : Int)] w fun e w' => e = .returned (.tuple #[.int .u32 ((workN 12 ⟨s, t, imm, Sw.sextI imm 16, sa, rd⟩).getD 0 : Int), .bool (workN 12 ⟨s, t, imm, Sw.sextI imm 16, sa, rd⟩).isSome]) ∧ Below w.heap.size w w' := by
  obtain ⟨W, hW, hb, hz, d0, d1, d2, d3, d4, d5⟩ := box6 w (.string ⟨#[120, 111, 114, 105]⟩) (.int .i64 rs) (.int .i64 rt) (.int .i64 rd) (.int .i64 sa) (.int .u32 (imm : Int)) 24
  have HB : Hid (Below w.heap.size w W) := hb
  have KE := hE W
  have KN : Hid (∀ w, Calls Tryd.prog 11 #[.string ⟨#[120, 111, 114, 105]⟩] w fun e w' => e = .returned (.bool true) ∧ w' = w) := fun w => kn_xori w
  have KS : Hid (∀ w, Calls Tryd.prog 21 #[.int .u32 (imm : Int), .int .i64 16] w fun e w' => e = .returned (.int .u32 ((Sw.sextI imm 16 : Nat) : Int)) ∧ w' = w) := fun w => Sw.rsext_any imm hi 16 w
  have hsx := sext16_lt imm
  generalize Sw.sextI imm 16 = sx at KS hsx ⊢
  have h : Hid (bits .xor .u32 (s : Int) (imm : Int) = ((s ^^^ imm : Nat) : Int)) := by show _ = _; exact xor_u32 s imm hs hi
  obtain ⟨r, hr⟩ : ∃ r, r = workN 12 ⟨s, t, imm, sx, sa, rd⟩ := ⟨_, rfl⟩
  rw [← hr]
  have HR : Hid (r = some ((s ^^^ imm))) := hr
  clear hr
  clear hb hz hi hs ht hle hsa hrd hE hsx
  go_enter Tryd.func9, Tryd.ntmps9
  go_wp2_with fail
  refine KE.mono ?_
  rintro e w3 ⟨rfl, hb3⟩
  have d0 := keep_cell hb3 d0
  have d1 := keep_cell hb3 d1
  have d2 := keep_cell hb3 d2
  have d3 := keep_cell hb3 d3
  have d4 := keep_cell hb3 d4
  have d5 := keep_cell hb3 d5
  have HB3 : Hid (Below w.heap.size w w3) := below_tr HB.out hb3
  clear hb3 KE
  go_wp2_with fail
  refine (KN.out _).mono ?_
  rintro e w9 ⟨rfl, rfl⟩
  go_wp2_with fail
  refine (KS.out _).mono ?_
  rintro e w9 ⟨rfl, rfl⟩
  go_wp2
  go_ret2
  exact ⟨(by rw [HR.out]; exact congrArg (fun z => Ending.returned (.tuple #[.int .u32 z, .bool true])) h.out), HB3.out⟩
set_option maxHeartbeats 1000000 in
theorem r9_slt (rs rt rd sa : Int) (imm s t E : Nat) (hi : imm < 4294967296) (hs : s < 4294967296) (ht : t < 4294967296) (hsa : 0 ≤ sa ∧ sa < 32) (hrd : 0 ≤ rd ∧ rd < 32) (hle : sa ≤ rd ∨ True) (hE : ∀ w, Calls Tryd.prog 20 #[.agg #[.string ⟨#[115, 108, 116]⟩, .int .i64 rs, .int .i64 rt, .int .i64 rd, .int .i64 sa, .int .u32 (imm : Int)]] w fun e w' => e = .returned (.tuple #[.int .u32 (E : Int), .bool true]) ∧ Below w.heap.size w w') (w : World) :
    Calls Tryd.prog 9 #[.agg #[.string ⟨#[115, 108, 116]⟩, .int .i64 rs, .int .i64 rt, .int .i64 rd, .int .i64 sa, .int .u32 (imm : Int)], .int .u32 (s : Int), .int .u32 (t : Int)] w fun e w' => e = .returned (.tuple #[.int .u32 ((workN 13 ⟨s, t, imm, Sw.sextI imm 16, sa, rd⟩).getD 0 : Int), .bool (workN 13 ⟨s, t, imm, Sw.sextI imm 16, sa, rd⟩).isSome]) ∧ Below w.heap.size w w' := by
  obtain ⟨W, hW, hb, hz, d0, d1, d2, d3, d4, d5⟩ := box6 w (.string ⟨#[115, 108, 116]⟩) (.int .i64 rs) (.int .i64 rt) (.int .i64 rd) (.int .i64 sa) (.int .u32 (imm : Int)) 24
  have HB : Hid (Below w.heap.size w W) := hb
  have KE := hE W
  have KN : Hid (∀ w, Calls Tryd.prog 11 #[.string ⟨#[115, 108, 116]⟩] w fun e w' => e = .returned (.bool true) ∧ w' = w) := fun w => kn_slt w
  have KS : Hid (∀ w, Calls Tryd.prog 21 #[.int .u32 (imm : Int), .int .i64 16] w fun e w' => e = .returned (.int .u32 ((Sw.sextI imm 16 : Nat) : Int)) ∧ w' = w) := fun w => Sw.rsext_any imm hi 16 w
  have hsx := sext16_lt imm
  generalize Sw.sextI imm 16 = sx at KS hsx ⊢
  have K1 : Hid (∀ w, Calls Tryd.prog 24 #[.int .u32 (s : Int), .int .u32 (t : Int)] w fun e w' => e = .returned (.bool (decide (sg s < sg t))) ∧ w' = w) := fun w => less24 s t hs ht w
  obtain ⟨r, hr⟩ : ∃ r, r = workN 13 ⟨s, t, imm, sx, sa, rd⟩ := ⟨_, rfl⟩
  rw [← hr]
  have HR : Hid (r = some (bitN (decide (sg s < sg t)))) := hr
  clear hr
  generalize decide (sg s < sg t) = q at K1 HR
  have K2 : Hid (∀ w, Calls Tryd.prog 23 #[.bool q] w fun e w' => e = .returned (.int .u32 (bitN q : Int)) ∧ w' = w) := fun w => bit23 q w
  clear hb hz hi hs ht hle hsa hrd hE hsx
  go_enter Tryd.func9, Tryd.ntmps9
  go_wp2_with fail
  refine KE.mono ?_
  rintro e w3 ⟨rfl, hb3⟩
  have d0 := keep_cell hb3 d0
  have d1 := keep_cell hb3 d1
  have d2 := keep_cell hb3 d2
  have d3 := keep_cell hb3 d3
  have d4 := keep_cell hb3 d4
  have d5 := keep_cell hb3 d5
  have HB3 : Hid (Below w.heap.size w w3) := below_tr HB.out hb3
  clear hb3 KE
  go_wp2_with fail
  refine (KN.out _).mono ?_
  rintro e w9 ⟨rfl, rfl⟩
  go_wp2_with fail
  refine (KS.out _).mono ?_
  rintro e w9 ⟨rfl, rfl⟩
  go_wp2_with fail
  refine (K1.out _).mono ?_
  rintro e w9 ⟨rfl, rfl⟩
  go_wp2_with fail
  refine (K2.out _).mono ?_
  rintro e w9 ⟨rfl, rfl⟩
  go_wp2
  go_ret2
  exact ⟨(by rw [HR.out]; rfl), HB3.out⟩
set_option maxHeartbeats 1000000 in
theorem r9_sltu (rs rt rd sa : Int) (imm s t E : Nat) (hi : imm < 4294967296) (hs : s < 4294967296) (ht : t < 4294967296) (hsa : 0 ≤ sa ∧ sa < 32) (hrd : 0 ≤ rd ∧ rd < 32) (hle : sa ≤ rd ∨ True) (hE : ∀ w, Calls Tryd.prog 20 #[.agg #[.string ⟨#[115, 108, 116, 117]⟩, .int .i64 rs, .int .i64 rt, .int .i64 rd, .int .i64 sa, .int .u32 (imm : Int)]] w fun e w' => e = .returned (.tuple #[.int .u32 (E : Int), .bool true]) ∧ Below w.heap.size w w') (w : World) :
    Calls Tryd.prog 9 #[.agg #[.string ⟨#[115, 108, 116, 117]⟩, .int .i64 rs, .int .i64 rt, .int .i64 rd, .int .i64 sa, .int .u32 (imm : Int)], .int .u32 (s : Int), .int .u32 (t : Int)] w fun e w' => e = .returned (.tuple #[.int .u32 ((workN 14 ⟨s, t, imm, Sw.sextI imm 16, sa, rd⟩).getD 0 : Int), .bool (workN 14 ⟨s, t, imm, Sw.sextI imm 16, sa, rd⟩).isSome]) ∧ Below w.heap.size w w' := by
  obtain ⟨W, hW, hb, hz, d0, d1, d2, d3, d4, d5⟩ := box6 w (.string ⟨#[115, 108, 116, 117]⟩) (.int .i64 rs) (.int .i64 rt) (.int .i64 rd) (.int .i64 sa) (.int .u32 (imm : Int)) 24
  have HB : Hid (Below w.heap.size w W) := hb
  have KE := hE W
  have KN : Hid (∀ w, Calls Tryd.prog 11 #[.string ⟨#[115, 108, 116, 117]⟩] w fun e w' => e = .returned (.bool true) ∧ w' = w) := fun w => kn_sltu w
  have KS : Hid (∀ w, Calls Tryd.prog 21 #[.int .u32 (imm : Int), .int .i64 16] w fun e w' => e = .returned (.int .u32 ((Sw.sextI imm 16 : Nat) : Int)) ∧ w' = w) := fun w => Sw.rsext_any imm hi 16 w
  have hsx := sext16_lt imm
  generalize Sw.sextI imm 16 = sx at KS hsx ⊢
  obtain ⟨r, hr⟩ : ∃ r, r = workN 14 ⟨s, t, imm, sx, sa, rd⟩ := ⟨_, rfl⟩
  rw [← hr]
  have HR : Hid (r = some (bitN (decide (s < t)))) := hr
  clear hr
  have K2 : Hid (∀ w, Calls Tryd.prog 23 #[.bool (decide (s < t))] w fun e w' => e = .returned (.int .u32 (bitN (decide (s < t)) : Int)) ∧ w' = w) := fun w => bit23 _ w
  clear hb hz hi hs ht hle hsa hrd hE hsx
  go_enter Tryd.func9, Tryd.ntmps9
  go_wp2_with fail
  refine KE.mono ?_
  rintro e w3 ⟨rfl, hb3⟩
  have d0 := keep_cell hb3 d0
  have d1 := keep_cell hb3 d1
  have d2 := keep_cell hb3 d2
  have d3 := keep_cell hb3 d3
  have d4 := keep_cell hb3 d4
  have d5 := keep_cell hb3 d5
  have HB3 : Hid (Below w.heap.size w w3) := below_tr HB.out hb3
  clear hb3 KE
  go_wp2_with fail
  refine (KN.out _).mono ?_
  rintro e w9 ⟨rfl, rfl⟩
  go_wp2_with fail
  refine (KS.out _).mono ?_
  rintro e w9 ⟨rfl, rfl⟩
  go_wp2_with fail
  refine (K2.out _).mono ?_
  rintro e w9 ⟨rfl, rfl⟩
  go_wp2
  go_ret2
  exact ⟨(by rw [HR.out]; rfl), HB3.out⟩
set_option maxHeartbeats 1000000 in
theorem r9_slti (rs rt rd sa : Int) (imm s t E : Nat) (hi : imm < 4294967296) (hs : s < 4294967296) (ht : t < 4294967296) (hsa : 0 ≤ sa ∧ sa < 32) (hrd : 0 ≤ rd ∧ rd < 32) (hle : sa ≤ rd ∨ True) (hE : ∀ w, Calls Tryd.prog 20 #[.agg #[.string ⟨#[115, 108, 116, 105]⟩, .int .i64 rs, .int .i64 rt, .int .i64 rd, .int .i64 sa, .int .u32 (imm : Int)]] w fun e w' => e = .returned (.tuple #[.int .u32 (E : Int), .bool true]) ∧ Below w.heap.size w w') (w : World) :
    Calls Tryd.prog 9 #[.agg #[.string ⟨#[115, 108, 116, 105]⟩, .int .i64 rs, .int .i64 rt, .int .i64 rd, .int .i64 sa, .int .u32 (imm : Int)], .int .u32 (s : Int), .int .u32 (t : Int)] w fun e w' => e = .returned (.tuple #[.int .u32 ((workN 15 ⟨s, t, imm, Sw.sextI imm 16, sa, rd⟩).getD 0 : Int), .bool (workN 15 ⟨s, t, imm, Sw.sextI imm 16, sa, rd⟩).isSome]) ∧ Below w.heap.size w w' := by
  obtain ⟨W, hW, hb, hz, d0, d1, d2, d3, d4, d5⟩ := box6 w (.string ⟨#[115, 108, 116, 105]⟩) (.int .i64 rs) (.int .i64 rt) (.int .i64 rd) (.int .i64 sa) (.int .u32 (imm : Int)) 24
  have HB : Hid (Below w.heap.size w W) := hb
  have KE := hE W
  have KN : Hid (∀ w, Calls Tryd.prog 11 #[.string ⟨#[115, 108, 116, 105]⟩] w fun e w' => e = .returned (.bool true) ∧ w' = w) := fun w => kn_slti w
  have KS : Hid (∀ w, Calls Tryd.prog 21 #[.int .u32 (imm : Int), .int .i64 16] w fun e w' => e = .returned (.int .u32 ((Sw.sextI imm 16 : Nat) : Int)) ∧ w' = w) := fun w => Sw.rsext_any imm hi 16 w
  have hsx := sext16_lt imm
  generalize Sw.sextI imm 16 = sx at KS hsx ⊢
  have K1 : Hid (∀ w, Calls Tryd.prog 24 #[.int .u32 (s : Int), .int .u32 (sx : Int)] w fun e w' => e = .returned (.bool (decide (sg s < sg sx))) ∧ w' = w) := fun w => less24 s sx hs hsx w
  obtain ⟨r, hr⟩ : ∃ r, r = workN 15 ⟨s, t, imm, sx, sa, rd⟩ := ⟨_, rfl⟩
  rw [← hr]
  have HR : Hid (r = some (bitN (decide (sg s < sg sx)))) := hr
  clear hr
  generalize decide (sg s < sg sx) = q at K1 HR
  have K2 : Hid (∀ w, Calls Tryd.prog 23 #[.bool q] w fun e w' => e = .returned (.int .u32 (bitN q : Int)) ∧ w' = w) := fun w => bit23 q w
  clear hb hz hi hs ht hle hsa hrd hE hsx
  go_enter Tryd.func9, Tryd.ntmps9
  go_wp2_with fail
  refine KE.mono ?_
  rintro e w3 ⟨rfl, hb3⟩
  have d0 := keep_cell hb3 d0
  have d1 := keep_cell hb3 d1
  have d2 := keep_cell hb3 d2
  have d3 := keep_cell hb3 d3
  have d4 := keep_cell hb3 d4
  have d5 := keep_cell hb3 d5
  have HB3 : Hid (Below w.heap.size w w3) := below_tr HB.out hb3
  clear hb3 KE
  go_wp2_with fail
  refine (KN.out _).mono ?_
  rintro e w9 ⟨rfl, rfl⟩
  go_wp2_with fail
  refine (KS.out _).mono ?_
  rintro e w9 ⟨rfl, rfl⟩
  go_wp2_with fail
  refine (K1.out _).mono ?_
  rintro e w9 ⟨rfl, rfl⟩
  go_wp2_with fail
  refine (K2.out _).mono ?_
  rintro e w9 ⟨rfl, rfl⟩
  go_wp2
  go_ret2
  exact ⟨(by rw [HR.out]; rfl), HB3.out⟩
set_option maxHeartbeats 1000000 in
theorem r9_sltiu (rs rt rd sa : Int) (imm s t E : Nat) (hi : imm < 4294967296) (hs : s < 4294967296) (ht : t < 4294967296) (hsa : 0 ≤ sa ∧ sa < 32) (hrd : 0 ≤ rd ∧ rd < 32) (hle : sa ≤ rd ∨ True) (hE : ∀ w, Calls Tryd.prog 20 #[.agg #[.string ⟨#[115, 108, 116, 105, 117]⟩, .int .i64 rs, .int .i64 rt, .int .i64 rd, .int .i64 sa, .int .u32 (imm : Int)]] w fun e w' => e = .returned (.tuple #[.int .u32 (E : Int), .bool true]) ∧ Below w.heap.size w w') (w : World) :
    Calls Tryd.prog 9 #[.agg #[.string ⟨#[115, 108, 116, 105, 117]⟩, .int .i64 rs, .int .i64 rt, .int .i64 rd, .int .i64 sa, .int .u32 (imm : Int)], .int .u32 (s : Int), .int .u32 (t : Int)] w fun e w' => e = .returned (.tuple #[.int .u32 ((workN 16 ⟨s, t, imm, Sw.sextI imm 16, sa, rd⟩).getD 0 : Int), .bool (workN 16 ⟨s, t, imm, Sw.sextI imm 16, sa, rd⟩).isSome]) ∧ Below w.heap.size w w' := by
  obtain ⟨W, hW, hb, hz, d0, d1, d2, d3, d4, d5⟩ := box6 w (.string ⟨#[115, 108, 116, 105, 117]⟩) (.int .i64 rs) (.int .i64 rt) (.int .i64 rd) (.int .i64 sa) (.int .u32 (imm : Int)) 24
  have HB : Hid (Below w.heap.size w W) := hb
  have KE := hE W
  have KN : Hid (∀ w, Calls Tryd.prog 11 #[.string ⟨#[115, 108, 116, 105, 117]⟩] w fun e w' => e = .returned (.bool true) ∧ w' = w) := fun w => kn_sltiu w
  have KS : Hid (∀ w, Calls Tryd.prog 21 #[.int .u32 (imm : Int), .int .i64 16] w fun e w' => e = .returned (.int .u32 ((Sw.sextI imm 16 : Nat) : Int)) ∧ w' = w) := fun w => Sw.rsext_any imm hi 16 w
  have hsx := sext16_lt imm
  generalize Sw.sextI imm 16 = sx at KS hsx ⊢
  obtain ⟨r, hr⟩ : ∃ r, r = workN 16 ⟨s, t, imm, sx, sa, rd⟩ := ⟨_, rfl⟩
  rw [← hr]
  have HR : Hid (r = some (bitN (decide (s < sx)))) := hr
  clear hr
  have K2 : Hid (∀ w, Calls Tryd.prog 23 #[.bool (decide (s < sx))] w fun e w' => e = .returned (.int .u32 (bitN (decide (s < sx)) : Int)) ∧ w' = w) := fun w => bit23 _ w
  clear hb hz hi hs ht hle hsa hrd hE hsx
  go_enter Tryd.func9, Tryd.ntmps9
  go_wp2_with fail
  refine KE.mono ?_
  rintro e w3 ⟨rfl, hb3⟩
  have d0 := keep_cell hb3 d0
  have d1 := keep_cell hb3 d1
  have d2 := keep_cell hb3 d2
  have d3 := keep_cell hb3 d3
  have d4 := keep_cell hb3 d4
  have d5 := keep_cell hb3 d5
  have HB3 : Hid (Below w.heap.size w w3) := below_tr HB.out hb3
  clear hb3 KE
  go_wp2_with fail
  refine (KN.out _).mono ?_
  rintro e w9 ⟨rfl, rfl⟩
  go_wp2_with fail
  refine (KS.out _).mono ?_
  rintro e w9 ⟨rfl, rfl⟩
  go_wp2_with fail
  refine (K2.out _).mono ?_
  rintro e w9 ⟨rfl, rfl⟩
  go_wp2
  go_ret2
  exact ⟨(by rw [HR.out]; rfl), HB3.out⟩
set_option maxHeartbeats 1000000 in
theorem r9_lui (rs rt rd sa : Int) (imm s t E : Nat) (hi : imm < 4294967296) (hs : s < 4294967296) (ht : t < 4294967296) (hsa : 0 ≤ sa ∧ sa < 32) (hrd : 0 ≤ rd ∧ rd < 32) (hle : sa ≤ rd ∨ True) (hE : ∀ w, Calls Tryd.prog 20 #[.agg #[.string ⟨#[108, 117, 105]⟩, .int .i64 rs, .int .i64 rt, .int .i64 rd, .int .i64 sa, .int .u32 (imm : Int)]] w fun e w' => e = .returned (.tuple #[.int .u32 (E : Int), .bool true]) ∧ Below w.heap.size w w') (w : World) :
    Calls Tryd.prog 9 #[.agg #[.string ⟨#[108, 117, 105]⟩, .int .i64 rs, .int .i64 rt, .int .i64 rd, .int .i64 sa, .int .u32 (imm : Int)], .int .u32 (s : Int), .int .u32 (t : Int)] w fun e w' => e = .returned (.tuple #[.int .u32 ((workN 17 ⟨s, t, imm, Sw.sextI imm 16, sa, rd⟩).getD 0 : Int), .bool (workN 17 ⟨s, t, imm, Sw.sextI imm 16, sa, rd⟩).isSome]) ∧ Below w.heap.size w w' := by
  obtain ⟨W, hW, hb, hz, d0, d1, d2, d3, d4, d5⟩ := box6 w (.string ⟨#[108, 117, 105]⟩) (.int .i64 rs) (.int .i64 rt) (.int .i64 rd) (.int .i64 sa) (.int .u32 (imm : Int)) 24
  have HB : Hid (Below w.heap.size w W) := hb
  have KE := hE W
  have KN : Hid (∀ w, Calls Tryd.prog 11 #[.string ⟨#[108, 117, 105]⟩] w fun e w' => e = .returned (.bool true) ∧ w' = w) := fun w => kn_lui w
  have KS : Hid (∀ w, Calls Tryd.prog 21 #[.int .u32 (imm : Int), .int .i64 16] w fun e w' => e = .returned (.int .u32 ((Sw.sextI imm 16 : Nat) : Int)) ∧ w' = w) := fun w => Sw.rsext_any imm hi 16 w
  have hsx := sext16_lt imm
  generalize Sw.sextI imm 16 = sx at KS hsx ⊢
  have h : Hid ((imm : Int) * 65536 % 4294967296 = ((imm * 65536 % 4294967296 : Nat) : Int)) := by show _ = _; omega
  obtain ⟨r, hr⟩ : ∃ r, r = workN 17 ⟨s, t, imm, sx, sa, rd⟩ := ⟨_, rfl⟩
  rw [← hr]
  have HR : Hid (r = some ((imm * 65536 % 4294967296))) := hr
  clear hr
  clear hb hz hi hs ht hle hsa hrd hE hsx
  go_enter Tryd.func9, Tryd.ntmps9
  go_wp2_with fail
  refine KE.mono ?_
  rintro e w3 ⟨rfl, hb3⟩
  have d0 := keep_cell hb3 d0
  have d1 := keep_cell hb3 d1
  have d2 := keep_cell hb3 d2
  have d3 := keep_cell hb3 d3
  have d4 := keep_cell hb3 d4
  have d5 := keep_cell hb3 d5
  have HB3 : Hid (Below w.heap.size w w3) := below_tr HB.out hb3
  clear hb3 KE
  go_wp2_with fail
  refine (KN.out _).mono ?_
  rintro e w9 ⟨rfl, rfl⟩
  go_wp2_with fail
  refine (KS.out _).mono ?_
  rintro e w9 ⟨rfl, rfl⟩
  go_wp2
  go_ret2
  exact ⟨(by rw [HR.out]; exact congrArg (fun z => Ending.returned (.tuple #[.int .u32 z, .bool true])) h.out), HB3.out⟩
end Go.Proofs.YtogokbefpgaciaaDoor
