/- What is proved here: the walk of AluDoes. -/
import Derived.Test.YtogokbefpgaciaaDoorAs
import Derived.Test.YtogokbefpgaciaaDoorAt
import Derived.Test.YtogokbefpgaciaaDoorAj
namespace Go.Proofs.YtogokbefpgaciaaDoor
open Go.RowKit
set_option linter.unusedVariables false
set_option linter.unusedSimpArgs false
set_option maxRecDepth 100000
theorem renc20 (i : In) (hi : i.imm < 4294967296) (w : World) : Calls Tryd.prog 20 #[i.val] w fun e w' => e = .returned (.tuple #[.int .u32 (encN i : Int), .bool (isIns i)]) ∧ Below w.heap.size w w' := by
  obtain ⟨h1, h2, h3⟩ := selA_ok i.name
  obtain ⟨e1, e2⟩ := enc_eq i
  have K := encodeD12 i hi (selA i.name) rfl h1 h2 h3 w
  have e2' : (if fitD i (selA i.name) then wordD i (selA i.name) else 0) = encN i := e2
  have e1' : fitD i (selA i.name) = isIns i := e1
  rw [e2', e1'] at K
  exact K
set_option maxHeartbeats 1000000 in
theorem r9_no (i : In) (s t : Nat) (hi : i.imm < 4294967296) (h : isIns i = false) (w : World) : Calls Tryd.prog 9 #[i.val, .int .u32 (s : Int), .int .u32 (t : Int)] w fun e w' => e = .returned (.tuple #[.int .u32 0, .bool false]) ∧ Below w.heap.size w w' := by
  obtain ⟨W, hW, hb, hz, d0, d1, d2, d3, d4, d5⟩ := box6 w (.string i.name) (.int .i64 i.rs) (.int .i64 i.rt) (.int .i64 i.rd) (.int .i64 i.sa) (.int .u32 (i.imm : Int)) 24
  have HB : Hid (Below w.heap.size w W) := hb
  have KE := renc20 i hi W
  rw [h] at KE
  generalize encN i = E at KE
  obtain ⟨nm, rs, rt, rd, sa, imm⟩ := i
  simp only [In.val] at KE d0 d1 d2 d3 d4 d5 hW ⊢
  clear hb hz hi h
  go_enter Tryd.func9, Tryd.ntmps9
  go_wp2_with fail
  refine KE.mono ?_
  rintro e w3 ⟨rfl, hb3⟩
  have HB3 : Hid (Below w.heap.size w w3) := below_tr HB.out hb3
  clear hb3 KE
  go_wp2
  go_ret2
  exact ⟨rfl, HB3.out⟩
set_option maxHeartbeats 1000000 in
theorem r9_un (i : In) (s t : Nat) (hi : i.imm < 4294967296) (h : isIns i = true) (hn : aIdx i.name = none) (w : World) : Calls Tryd.prog 9 #[i.val, .int .u32 (s : Int), .int .u32 (t : Int)] w fun e w' => e = .returned (.tuple #[.int .u32 0, .bool false]) ∧ Below w.heap.size w w' := by
  obtain ⟨W, hW, hb, hz, d0, d1, d2, d3, d4, d5⟩ := box6 w (.string i.name) (.int .i64 i.rs) (.int .i64 i.rt) (.int .i64 i.rd) (.int .i64 i.sa) (.int .u32 (i.imm : Int)) 24
  have HB : Hid (Below w.heap.size w W) := hb
  have KE := renc20 i hi W
  rw [h] at KE
  have KN : Hid (∀ w, Calls Tryd.prog 11 #[.string i.name] w fun e w' => e = .returned (.bool false) ∧ w' = w) := fun w => kn_none i.name hn w
  generalize encN i = E at KE
  obtain ⟨nm, rs, rt, rd, sa, imm⟩ := i
  simp only [In.val] at KE d0 d1 d2 d3 d4 d5 hW KN ⊢
  clear hb hz hi h hn
  go_enter Tryd.func9, Tryd.ntmps9
  go_wp2_with fail
  refine KE.mono ?_
  rintro e w3 ⟨rfl, hb3⟩
  have d0 := keep_cell hb3 d0
  have HB3 : Hid (Below w.heap.size w w3) := below_tr HB.out hb3
  clear hb3 KE d1 d2 d3 d4 d5
  go_wp2_with fail
  refine (KN.out _).mono ?_
  rintro e w9 ⟨rfl, rfl⟩
  go_wp2
  go_ret2
  exact ⟨rfl, HB3.out⟩
set_option maxHeartbeats 4000000 in
theorem rdo_at (k : Nat) (hk : k < aL.length) : ∀ (nm : ByteArray) (e : nm = aL[k].1) (rs rt rd sa : Int) (imm s t E : Nat) (hi : imm < 4294967296) (hs : s < 4294967296) (ht : t < 4294967296) (l4 : 0 ≤ sa ∧ sa < 32) (l3 : 0 ≤ rd ∧ rd < 32) (hle : k = 30 → sa ≤ rd) (hE : ∀ w, Calls Tryd.prog 20 #[.agg #[.string nm, .int .i64 rs, .int .i64 rt, .int .i64 rd, .int .i64 sa, .int .u32 (imm : Int)]] w fun e w' => e = .returned (.tuple #[.int .u32 (E : Int), .bool true]) ∧ Below w.heap.size w w') (w : World),
    Calls Tryd.prog 9 #[.agg #[.string nm, .int .i64 rs, .int .i64 rt, .int .i64 rd, .int .i64 sa, .int .u32 (imm : Int)], .int .u32 (s : Int), .int .u32 (t : Int)] w fun e w' => e = .returned (.tuple #[.int .u32 ((workN k ⟨s, t, imm, Sw.sextI imm 16, sa, rd⟩).getD 0 : Int), .bool (workN k ⟨s, t, imm, Sw.sextI imm 16, sa, rd⟩).isSome]) ∧ Below w.heap.size w w' := by
  match k, hk with
  | 0, _ => intro nm e rs rt rd sa imm s t E hi hs ht l4 l3 hle hE w; obtain rfl : nm = ⟨#[97, 100, 100]⟩ := e; exact r9_add rs rt rd sa imm s t E hi hs ht l4 l3 (.inr trivial) hE w
  | 1, _ => intro nm e rs rt rd sa imm s t E hi hs ht l4 l3 hle hE w; obtain rfl : nm = ⟨#[115, 117, 98]⟩ := e; exact r9_sub rs rt rd sa imm s t E hi hs ht l4 l3 (.inr trivial) hE w
  | 2, _ => intro nm e rs rt rd sa imm s t E hi hs ht l4 l3 hle hE w; obtain rfl : nm = ⟨#[97, 100, 100, 105]⟩ := e; exact r9_addi rs rt rd sa imm s t E hi hs ht l4 l3 (.inr trivial) hE w
  | 3, _ => intro nm e rs rt rd sa imm s t E hi hs ht l4 l3 hle hE w; obtain rfl : nm = ⟨#[97, 100, 100, 117]⟩ := e; exact r9_addu rs rt rd sa imm s t E hi hs ht l4 l3 (.inr trivial) hE w
  | 4, _ => intro nm e rs rt rd sa imm s t E hi hs ht l4 l3 hle hE w; obtain rfl : nm = ⟨#[115, 117, 98, 117]⟩ := e; exact r9_subu rs rt rd sa imm s t E hi hs ht l4 l3 (.inr trivial) hE w
  | 5, _ => intro nm e rs rt rd sa imm s t E hi hs ht l4 l3 hle hE w; obtain rfl : nm = ⟨#[97, 100, 100, 105, 117]⟩ := e; exact r9_addiu rs rt rd sa imm s t E hi hs ht l4 l3 (.inr trivial) hE w
  | 6, _ => intro nm e rs rt rd sa imm s t E hi hs ht l4 l3 hle hE w; obtain rfl : nm = ⟨#[97, 110, 100]⟩ := e; exact r9_and rs rt rd sa imm s t E hi hs ht l4 l3 (.inr trivial) hE w
  | 7, _ => intro nm e rs rt rd sa imm s t E hi hs ht l4 l3 hle hE w; obtain rfl : nm = ⟨#[111, 114]⟩ := e; exact r9_or rs rt rd sa imm s t E hi hs ht l4 l3 (.inr trivial) hE w
  | 8, _ => intro nm e rs rt rd sa imm s t E hi hs ht l4 l3 hle hE w; obtain rfl : nm = ⟨#[120, 111, 114]⟩ := e; exact r9_xor rs rt rd sa imm s t E hi hs ht l4 l3 (.inr trivial) hE w
  | 9, _ => intro nm e rs rt rd sa imm s t E hi hs ht l4 l3 hle hE w; obtain rfl : nm = ⟨#[110, 111, 114]⟩ := e; exact r9_nor rs rt rd sa imm s t E hi hs ht l4 l3 (.inr trivial) hE w
  | 10, _ => intro nm e rs rt rd sa imm s t E hi hs ht l4 l3 hle hE w; obtain rfl : nm = ⟨#[97, 110, 100, 105]⟩ := e; exact r9_andi rs rt rd sa imm s t E hi hs ht l4 l3 (.inr trivial) hE w
  | 11, _ => intro nm e rs rt rd sa imm s t E hi hs ht l4 l3 hle hE w; obtain rfl : nm = ⟨#[111, 114, 105]⟩ := e; exact r9_ori rs rt rd sa imm s t E hi hs ht l4 l3 (.inr trivial) hE w
  | 12, _ => intro nm e rs rt rd sa imm s t E hi hs ht l4 l3 hle hE w; obtain rfl : nm = ⟨#[120, 111, 114, 105]⟩ := e; exact r9_xori rs rt rd sa imm s t E hi hs ht l4 l3 (.inr trivial) hE w
  | 13, _ => intro nm e rs rt rd sa imm s t E hi hs ht l4 l3 hle hE w; obtain rfl : nm = ⟨#[115, 108, 116]⟩ := e; exact r9_slt rs rt rd sa imm s t E hi hs ht l4 l3 (.inr trivial) hE w
  | 14, _ => intro nm e rs rt rd sa imm s t E hi hs ht l4 l3 hle hE w; obtain rfl : nm = ⟨#[115, 108, 116, 117]⟩ := e; exact r9_sltu rs rt rd sa imm s t E hi hs ht l4 l3 (.inr trivial) hE w
  | 15, _ => intro nm e rs rt rd sa imm s t E hi hs ht l4 l3 hle hE w; obtain rfl : nm = ⟨#[115, 108, 116, 105]⟩ := e; exact r9_slti rs rt rd sa imm s t E hi hs ht l4 l3 (.inr trivial) hE w
  | 16, _ => intro nm e rs rt rd sa imm s t E hi hs ht l4 l3 hle hE w; obtain rfl : nm = ⟨#[115, 108, 116, 105, 117]⟩ := e; exact r9_sltiu rs rt rd sa imm s t E hi hs ht l4 l3 (.inr trivial) hE w
  | 17, _ => intro nm e rs rt rd sa imm s t E hi hs ht l4 l3 hle hE w; obtain rfl : nm = ⟨#[108, 117, 105]⟩ := e; exact r9_lui rs rt rd sa imm s t E hi hs ht l4 l3 (.inr trivial) hE w
  | 18, _ => intro nm e rs rt rd sa imm s t E hi hs ht l4 l3 hle hE w; obtain rfl : nm = ⟨#[115, 108, 108]⟩ := e; exact r9_sll rs rt rd sa imm s t E hi hs ht l4 l3 (.inr trivial) hE w
  | 19, _ => intro nm e rs rt rd sa imm s t E hi hs ht l4 l3 hle hE w; obtain rfl : nm = ⟨#[115, 114, 108]⟩ := e; exact r9_srl rs rt rd sa imm s t E hi hs ht l4 l3 (.inr trivial) hE w
  | 20, _ => intro nm e rs rt rd sa imm s t E hi hs ht l4 l3 hle hE w; obtain rfl : nm = ⟨#[115, 114, 97]⟩ := e; exact r9_sra rs rt rd sa imm s t E hi hs ht l4 l3 (.inr trivial) hE w
  | 21, _ => intro nm e rs rt rd sa imm s t E hi hs ht l4 l3 hle hE w; obtain rfl : nm = ⟨#[115, 108, 108, 118]⟩ := e; exact r9_sllv rs rt rd sa imm s t E hi hs ht l4 l3 (.inr trivial) hE w
  | 22, _ => intro nm e rs rt rd sa imm s t E hi hs ht l4 l3 hle hE w; obtain rfl : nm = ⟨#[115, 114, 108, 118]⟩ := e; exact r9_srlv rs rt rd sa imm s t E hi hs ht l4 l3 (.inr trivial) hE w
  | 23, _ => intro nm e rs rt rd sa imm s t E hi hs ht l4 l3 hle hE w; obtain rfl : nm = ⟨#[115, 114, 97, 118]⟩ := e; exact r9_srav rs rt rd sa imm s t E hi hs ht l4 l3 (.inr trivial) hE w
  | 24, _ => intro nm e rs rt rd sa imm s t E hi hs ht l4 l3 hle hE w; obtain rfl : nm = ⟨#[114, 111, 116, 114]⟩ := e; exact r9_rotr rs rt rd sa imm s t E hi hs ht l4 l3 (.inr trivial) hE w
  | 25, _ => intro nm e rs rt rd sa imm s t E hi hs ht l4 l3 hle hE w; obtain rfl : nm = ⟨#[114, 111, 116, 114, 118]⟩ := e; exact r9_rotrv rs rt rd sa imm s t E hi hs ht l4 l3 (.inr trivial) hE w
  | 26, _ => intro nm e rs rt rd sa imm s t E hi hs ht l4 l3 hle hE w; obtain rfl : nm = ⟨#[109, 117, 108]⟩ := e; exact r9_mul rs rt rd sa imm s t E hi hs ht l4 l3 (.inr trivial) hE w
  | 27, _ => intro nm e rs rt rd sa imm s t E hi hs ht l4 l3 hle hE w; obtain rfl : nm = ⟨#[99, 108, 122]⟩ := e; exact r9_clz rs rt rd sa imm s t E hi hs ht l4 l3 (.inr trivial) hE w
  | 28, _ => intro nm e rs rt rd sa imm s t E hi hs ht l4 l3 hle hE w; obtain rfl : nm = ⟨#[99, 108, 111]⟩ := e; exact r9_clo rs rt rd sa imm s t E hi hs ht l4 l3 (.inr trivial) hE w
  | 29, _ => intro nm e rs rt rd sa imm s t E hi hs ht l4 l3 hle hE w; obtain rfl : nm = ⟨#[101, 120, 116]⟩ := e; exact r9_ext rs rt rd sa imm s t E hi hs ht l4 l3 (.inr trivial) hE w
  | 30, _ => intro nm e rs rt rd sa imm s t E hi hs ht l4 l3 hle hE w; obtain rfl : nm = ⟨#[105, 110, 115]⟩ := e; exact r9_ins rs rt rd sa imm s t E hi hs ht l4 l3 (hle rfl) hE w
  | 31, _ => intro nm e rs rt rd sa imm s t E hi hs ht l4 l3 hle hE w; obtain rfl : nm = ⟨#[119, 115, 98, 104]⟩ := e; exact r9_wsbh rs rt rd sa imm s t E hi hs ht l4 l3 (.inr trivial) hE w
  | 32, _ => intro nm e rs rt rd sa imm s t E hi hs ht l4 l3 hle hE w; obtain rfl : nm = ⟨#[115, 101, 98]⟩ := e; exact r9_seb rs rt rd sa imm s t E hi hs ht l4 l3 (.inr trivial) hE w
  | 33, _ => intro nm e rs rt rd sa imm s t E hi hs ht l4 l3 hle hE w; obtain rfl : nm = ⟨#[115, 101, 104]⟩ := e; exact r9_seh rs rt rd sa imm s t E hi hs ht l4 l3 (.inr trivial) hE w
  | k + 34, h => exact absurd h (by rw [aL_len]; omega)
theorem rdo9 (i : In) (s t : Nat) (hi : i.imm < 4294967296) (hs : s < 4294967296) (ht : t < 4294967296) (w : World) : Calls Tryd.prog 9 #[i.val, .int .u32 (s : Int), .int .u32 (t : Int)] w fun e w' => e = .returned (.tuple #[.int .u32 ((doR i s t).getD 0 : Int), .bool (doR i s t).isSome]) ∧ Below w.heap.size w w' := by
  cases h : isIns i with
  | false =>
    have : doR i s t = none := by rw [doR, h]; rfl
    rw [this]
    exact r9_no i s t hi h w
  | true =>
    cases hn : aIdx i.name with
    | none =>
      have : doR i s t = none := by rw [doR, h, hn]; rfl
      rw [this]
      exact r9_un i s t hi h hn w
    | some k =>
      rw [doR_at s t h hn]
      obtain ⟨_, _, l3, l4, _⟩ := ins_small h
      have hle : k = 30 → i.sa ≤ i.rd := fun e => by
        subst e
        obtain ⟨_, h2⟩ := aidx_name hn
        exact ins_le h (by rw [← h2]; exact (by decide +kernel : (aL[30]'(by decide)).1.toList = [105, 110, 115]))
      have hE : ∀ w, Calls Tryd.prog 20 #[i.val] w fun e w' => e = .returned (.tuple #[.int .u32 (encN i : Int), .bool true]) ∧ Below w.heap.size w w' := fun w => by
        have K := renc20 i hi w
        rw [h] at K
        exact K
      obtain ⟨hk, e⟩ := aidx_lit hn
      generalize encN i = E at hE
      clear h hn
      obtain ⟨nm, rs, rt, rd, sa, imm⟩ := i
      exact rdo_at k hk nm e rs rt rd sa imm s t E hi hs ht l4 l3 hle hE w
set_option maxHeartbeats 1000000 in
theorem does_walk (i : In) (hi : i.imm < 4294967296) (s t : Nat) (hs : s < 4294967296) (ht : t < 4294967296) (w : World) (hT : Tab w) : Calls Tryd.prog 3 #[i.val, .int .u32 (s : Int), .int .u32 (t : Int)] w fun e w' => e = .returned (.bool true) ∧ Below w.heap.size w w' := by
  obtain ⟨W, hW, hb, hz, d0, d1, d2, d3, d4, d5⟩ := box6 w (.string i.name) (.int .i64 i.rs) (.int .i64 i.rt) (.int .i64 i.rd) (.int .i64 i.sa) (.int .u32 (i.imm : Int)) 24
  have HB : Hid (Below w.heap.size w W) := hb
  have HT : Hid (∀ w', Below W.heap.size W w' → Tab w') := fun w' h => hT.keep (below_tr hb h)
  have K1 := do8 i s t hi hs ht W (hT.keep hb)
  have K2 : Hid (∀ w, Calls Tryd.prog 9 #[i.val, .int .u32 (s : Int), .int .u32 (t : Int)] w fun e w' => e = .returned (.tuple #[.int .u32 ((doR i s t).getD 0 : Int), .bool (doR i s t).isSome]) ∧ Below w.heap.size w w') := fun w => rdo9 i s t hi hs ht w
  have K3 : Hid (∀ w, Calls Tryd.prog 10 #[.string i.name] w fun e w' => e = .returned (.bool (aIdx i.name).isSome) ∧ Below w.heap.size w w') := fun w => known10 i.name w
  have K4 : Hid (∀ w, Calls Tryd.prog 11 #[.string i.name] w fun e w' => e = .returned (.bool (aIdx i.name).isSome) ∧ w' = w) := fun w => known11 i.name w
  have K5 : Hid (∀ w, Calls Tryd.prog 12 #[.string i.name, .int .u32 (s : Int), .int .u32 (t : Int)] w fun e w' => e = .returned (.bool (trapB i.name s t)) ∧ w' = w) := fun w => traps12 i.name s t hs ht w
  have K6 : Hid (∀ w, Calls Tryd.prog 13 #[.string i.name, .int .u32 (s : Int), .int .u32 (t : Int)] w fun e w' => e = .returned (.bool (trapB i.name s t)) ∧ w' = w) := fun w => traps13 i.name s t hs ht w
  have KA : Hid (∀ w, Tab w → Calls Tryd.prog 14 #[] w fun e w' => e = .returned (.bool true) ∧ Below w.heap.size w w') := fun w hT => awake14 w hT
  generalize (aIdx i.name).isSome = kb at K3 K4
  generalize trapB i.name s t = tb at K5 K6
  generalize (doR i s t).isSome = ob at K1 K2
  generalize (doR i s t).getD 0 = o at K1 K2
  obtain ⟨nm, rs, rt, rd, sa, imm⟩ := i
  simp only [In.val] at K1 K2 K3 K4 K5 K6 d0 d1 d2 d3 d4 d5 hW ⊢
  clear hb hz hi hs ht hT
  go_enter Tryd.func3, Tryd.ntmps3
  go_wp2_with fail
  refine K1.mono ?_
  rintro e w3 ⟨rfl, hb3⟩
  have d0 := keep_cell hb3 d0
  have d1 := keep_cell hb3 d1
  have d2 := keep_cell hb3 d2
  have d3 := keep_cell hb3 d3
  have d4 := keep_cell hb3 d4
  have d5 := keep_cell hb3 d5
  have HB4 : Hid (Below W.heap.size W w3) := hb3
  clear hb3 K1
  go_wp2_with fail
  refine (K2.out _).mono ?_
  rintro e w5 ⟨rfl, hb5⟩
  have d0 := keep_cell hb5 d0
  have HB5 : Hid (Below W.heap.size W w5) := below_tr HB4.out hb5
  clear hb5 d1 d2 d3 d4 d5
  go_wp2
  refine wp_region_slots (R := Ext) [⟨25, fun v _ => v = (.int .u32 (o : Int)), fun _ _ _ _ h => h⟩, ⟨26, fun v _ => v = (.int .u32 (o : Int)), fun _ _ _ _ h => h⟩, ⟨27, fun v _ => v = (.bool true), fun _ _ _ _ h => h⟩, ⟨28, fun v _ => v = (.bool true), fun _ _ _ _ h => h⟩, ⟨29, fun v _ => v = (.bool ob), fun _ _ _ _ h => h⟩, ⟨30, fun v _ => v = (.bool ob), fun _ _ _ _ h => h⟩, ⟨31, fun v _ => v = (.bool true), fun _ _ _ _ h => h⟩, ⟨32, fun v _ => v = (.bool true), fun _ _ _ _ h => h⟩, ⟨33, fun v _ => v = (.bool true), fun _ _ _ _ h => h⟩, ⟨34, fun v _ => v = (.pointer (some ⟨w.heap.size, 0, none⟩)), fun _ _ _ _ h => h⟩, ⟨35, fun v _ => v = (.string nm), fun _ _ _ _ h => h⟩, ⟨36, fun v _ => v = (.bool kb), fun _ _ _ _ h => h⟩, ⟨37, fun v _ => v = (.pointer (some ⟨w.heap.size, 0, none⟩)), fun _ _ _ _ h => h⟩, ⟨38, fun v _ => v = (.string nm), fun _ _ _ _ h => h⟩, ⟨39, fun v _ => v = (.bool kb), fun _ _ _ _ h => h⟩, ⟨40, fun v _ => v = (.bool true), fun _ _ _ _ h => h⟩, ⟨41, fun v _ => v = (.bool true), fun _ _ _ _ h => h⟩, ⟨42, fun v _ => v = (.bool true), fun _ _ _ _ h => h⟩, ⟨43, fun v _ => v = (.pointer (some ⟨w.heap.size, 0, none⟩)), fun _ _ _ _ h => h⟩, ⟨44, fun v _ => v = (.string nm), fun _ _ _ _ h => h⟩, ⟨45, fun v _ => v = (.int .u32 (s : Int)), fun _ _ _ _ h => h⟩, ⟨46, fun v _ => v = (.int .u32 (t : Int)), fun _ _ _ _ h => h⟩, ⟨47, fun v _ => v = (.bool tb), fun _ _ _ _ h => h⟩, ⟨48, fun v _ => v = (.pointer (some ⟨w.heap.size, 0, none⟩)), fun _ _ _ _ h => h⟩, ⟨49, fun v _ => v = (.string nm), fun _ _ _ _ h => h⟩, ⟨50, fun v _ => v = (.int .u32 (s : Int)), fun _ _ _ _ h => h⟩, ⟨51, fun v _ => v = (.int .u32 (t : Int)), fun _ _ _ _ h => h⟩, ⟨52, fun v _ => v = (.bool tb), fun _ _ _ _ h => h⟩, ⟨53, fun v _ => v = (.bool true), fun _ _ _ _ h => h⟩, ⟨54, fun v _ => v = (.bool true), fun _ _ _ _ h => h⟩, ⟨55, fun v _ => v = (.bool true), fun _ _ _ _ h => h⟩, ⟨56, fun v _ => v = (.bool true), fun _ _ _ _ h => h⟩, ⟨57, fun v _ => v = (.bool true), fun _ _ _ _ h => h⟩, ⟨6, fun v _ => v = (.bool true), fun _ _ _ _ h => h⟩] _ (by kernel_rfl) rfl (by kernel_rfl) (Below.drew (Below.refl _ _)) (fun _ _ _ h1 h2 => below_tr h1 h2) (fun QQ => ⟨?_, ?_, ?_, ?_, ?_, ?_, ?_, ?_, ?_, ?_, ?_, ?_, ?_, ?_, ?_, ?_, ?_, ?_, ?_, ?_, ?_, ?_, ?_, ?_, ?_, ?_, ?_, ?_, ?_, ?_, ?_, ?_, ?_, ?_, trivial⟩) (fun f wy hR hf => ?_)
  · intro A wx hR hout hdep K hK
    have h7 : A.tmps[7]?.getD undef = (.int .u32 (o : Int)) := hout 7 (by kernel_rfl)
    refine if_yes (by kernel_rfl) ?_
    simp [go_sem, h7]
    exact hK.out _ _ (Below.refl _ _) rfl
  · intro A wx hR hout hdep K hK
    have h9 : A.tmps[9]?.getD undef = (.int .u32 (o : Int)) := hout 9 (by kernel_rfl)
    refine if_yes (by kernel_rfl) ?_
    simp [go_sem, h9]
    exact hK.out _ _ (Below.refl _ _) rfl
  · intro A wx hR hout hdep K hK
    have h25 : A.tmps[25]?.getD undef = (.int .u32 (o : Int)) := hdep 25 (by kernel_rfl)
    have h26 : A.tmps[26]?.getD undef = (.int .u32 (o : Int)) := hdep 26 (by kernel_rfl)
    refine if_yes (by kernel_rfl) ?_
    simp [go_sem, h25, h26]
    exact hK.out _ _ (Below.refl _ _) rfl
  · intro A wx hR hout hdep K hK
    have h27 : A.tmps[27]?.getD undef = (.bool true) := hdep 27 (by kernel_rfl)
    refine if_yes (by kernel_rfl) ?_
    simp [go_sem, h27]
    exact hK.out _ _ (Below.refl _ _) rfl
  · intro A wx hR hout hdep K hK
    have h8 : A.tmps[8]?.getD undef = (.bool ob) := hout 8 (by kernel_rfl)
    have h28 : A.tmps[28]?.getD undef = (.bool true) := hdep 28 (by kernel_rfl)
    refine if_yes ((wanted_is (j := 3) (b := true) (by kernel_rfl) (by kernel_rfl) h28).trans rfl) ?_
    simp [go_sem, h8]
    exact hK.out _ _ (Below.refl _ _) rfl
  · intro A wx hR hout hdep K hK
    have h10 : A.tmps[10]?.getD undef = (.bool ob) := hout 10 (by kernel_rfl)
    have h28 : A.tmps[28]?.getD undef = (.bool true) := hdep 28 (by kernel_rfl)
    refine if_yes ((wanted_is (j := 3) (b := true) (by kernel_rfl) (by kernel_rfl) h28).trans rfl) ?_
    simp [go_sem, h10]
    exact hK.out _ _ (Below.refl _ _) rfl
  · intro A wx hR hout hdep K hK
    have h29 : A.tmps[29]?.getD undef = (.bool ob) := hdep 29 (by kernel_rfl)
    have h30 : A.tmps[30]?.getD undef = (.bool ob) := hdep 30 (by kernel_rfl)
    have h28 : A.tmps[28]?.getD undef = (.bool true) := hdep 28 (by kernel_rfl)
    refine if_yes ((wanted_is (j := 3) (b := true) (by kernel_rfl) (by kernel_rfl) h28).trans rfl) ?_
    simp [go_sem, h29, h30]
    exact hK.out _ _ (Below.refl _ _) rfl
  · intro A wx hR hout hdep K hK
    have h28 : A.tmps[28]?.getD undef = (.bool true) := hdep 28 (by kernel_rfl)
    have h31 : A.tmps[31]?.getD undef = (.bool true) := hdep 31 (by kernel_rfl)
    refine if_yes (by kernel_rfl) ?_
    simp [go_sem, h28, h31]
    exact hK.out _ _ (Below.refl _ _) rfl
  · intro A wx hR hout hdep K hK
    have h32 : A.tmps[32]?.getD undef = (.bool true) := hdep 32 (by kernel_rfl)
    refine if_yes (by kernel_rfl) ?_
    simp [go_sem, h32]
    exact hK.out _ _ (Below.refl _ _) rfl
  · intro A wx hR hout hdep K hK
    have h3 : A.tmps[3]?.getD undef = (.pointer (some ⟨w.heap.size, 0, none⟩)) := hout 3 (by kernel_rfl)
    have h33 : A.tmps[33]?.getD undef = (.bool true) := hdep 33 (by kernel_rfl)
    refine if_yes ((wanted_is (j := 8) (b := true) (by kernel_rfl) (by kernel_rfl) h33).trans rfl) ?_
    simp [go_sem, h3]
    exact hK.out _ _ (Below.refl _ _) rfl
  · intro A wx hR hout hdep K hK
    have h34 : A.tmps[34]?.getD undef = (.pointer (some ⟨w.heap.size, 0, none⟩)) := hdep 34 (by kernel_rfl)
    have h33 : A.tmps[33]?.getD undef = (.bool true) := hdep 33 (by kernel_rfl)
    refine if_yes ((wanted_is (j := 8) (b := true) (by kernel_rfl) (by kernel_rfl) h33).trans rfl) ?_
    have d0 := keep_cell hR d0
    simp [go_sem, h34, d0]
    exact hK.out _ _ (Below.refl _ _) rfl
  · intro A wx hR hout hdep K hK
    have h35 : A.tmps[35]?.getD undef = (.string nm) := hdep 35 (by kernel_rfl)
    have h33 : A.tmps[33]?.getD undef = (.bool true) := hdep 33 (by kernel_rfl)
    refine if_yes ((wanted_is (j := 8) (b := true) (by kernel_rfl) (by kernel_rfl) h33).trans rfl) ?_
    simp [go_sem, h35]
    refine (K3.out wx).mono ?_
    rintro e wG ⟨rfl, hbG⟩
    exact hK.out _ _ hbG rfl
  · intro A wx hR hout hdep K hK
    have h3 : A.tmps[3]?.getD undef = (.pointer (some ⟨w.heap.size, 0, none⟩)) := hout 3 (by kernel_rfl)
    have h33 : A.tmps[33]?.getD undef = (.bool true) := hdep 33 (by kernel_rfl)
    refine if_yes ((wanted_is (j := 8) (b := true) (by kernel_rfl) (by kernel_rfl) h33).trans rfl) ?_
    simp [go_sem, h3]
    exact hK.out _ _ (Below.refl _ _) rfl
  · intro A wx hR hout hdep K hK
    have h37 : A.tmps[37]?.getD undef = (.pointer (some ⟨w.heap.size, 0, none⟩)) := hdep 37 (by kernel_rfl)
    have h33 : A.tmps[33]?.getD undef = (.bool true) := hdep 33 (by kernel_rfl)
    refine if_yes ((wanted_is (j := 8) (b := true) (by kernel_rfl) (by kernel_rfl) h33).trans rfl) ?_
    have d0 := keep_cell hR d0
    simp [go_sem, h37, d0]
    exact hK.out _ _ (Below.refl _ _) rfl
  · intro A wx hR hout hdep K hK
    have h38 : A.tmps[38]?.getD undef = (.string nm) := hdep 38 (by kernel_rfl)
    have h33 : A.tmps[33]?.getD undef = (.bool true) := hdep 33 (by kernel_rfl)
    refine if_yes ((wanted_is (j := 8) (b := true) (by kernel_rfl) (by kernel_rfl) h33).trans rfl) ?_
    simp [go_sem, h38]
    refine (K4.out wx).mono ?_
    rintro e wG ⟨rfl, rfl⟩
    exact hK.out _ _ (Below.refl _ _) rfl
  · intro A wx hR hout hdep K hK
    have h36 : A.tmps[36]?.getD undef = (.bool kb) := hdep 36 (by kernel_rfl)
    have h39 : A.tmps[39]?.getD undef = (.bool kb) := hdep 39 (by kernel_rfl)
    have h33 : A.tmps[33]?.getD undef = (.bool true) := hdep 33 (by kernel_rfl)
    refine if_yes ((wanted_is (j := 8) (b := true) (by kernel_rfl) (by kernel_rfl) h33).trans rfl) ?_
    simp [go_sem, h36, h39]
    exact hK.out _ _ (Below.refl _ _) rfl
  · intro A wx hR hout hdep K hK
    have h33 : A.tmps[33]?.getD undef = (.bool true) := hdep 33 (by kernel_rfl)
    have h40 : A.tmps[40]?.getD undef = (.bool true) := hdep 40 (by kernel_rfl)
    refine if_yes (by kernel_rfl) ?_
    simp [go_sem, h33, h40]
    exact hK.out _ _ (Below.refl _ _) rfl
  · intro A wx hR hout hdep K hK
    have h41 : A.tmps[41]?.getD undef = (.bool true) := hdep 41 (by kernel_rfl)
    refine if_yes (by kernel_rfl) ?_
    simp [go_sem, h41]
    exact hK.out _ _ (Below.refl _ _) rfl
  · intro A wx hR hout hdep K hK
    have h3 : A.tmps[3]?.getD undef = (.pointer (some ⟨w.heap.size, 0, none⟩)) := hout 3 (by kernel_rfl)
    have h42 : A.tmps[42]?.getD undef = (.bool true) := hdep 42 (by kernel_rfl)
    refine if_yes ((wanted_is (j := 17) (b := true) (by kernel_rfl) (by kernel_rfl) h42).trans rfl) ?_
    simp [go_sem, h3]
    exact hK.out _ _ (Below.refl _ _) rfl
  · intro A wx hR hout hdep K hK
    have h43 : A.tmps[43]?.getD undef = (.pointer (some ⟨w.heap.size, 0, none⟩)) := hdep 43 (by kernel_rfl)
    have h42 : A.tmps[42]?.getD undef = (.bool true) := hdep 42 (by kernel_rfl)
    refine if_yes ((wanted_is (j := 17) (b := true) (by kernel_rfl) (by kernel_rfl) h42).trans rfl) ?_
    have d0 := keep_cell hR d0
    simp [go_sem, h43, d0]
    exact hK.out _ _ (Below.refl _ _) rfl
  · intro A wx hR hout hdep K hK
    have h1 : A.tmps[1]?.getD undef = (.int .u32 (s : Int)) := hout 1 (by kernel_rfl)
    have h42 : A.tmps[42]?.getD undef = (.bool true) := hdep 42 (by kernel_rfl)
    refine if_yes ((wanted_is (j := 17) (b := true) (by kernel_rfl) (by kernel_rfl) h42).trans rfl) ?_
    simp [go_sem, h1]
    exact hK.out _ _ (Below.refl _ _) rfl
  · intro A wx hR hout hdep K hK
    have h2 : A.tmps[2]?.getD undef = (.int .u32 (t : Int)) := hout 2 (by kernel_rfl)
    have h42 : A.tmps[42]?.getD undef = (.bool true) := hdep 42 (by kernel_rfl)
    refine if_yes ((wanted_is (j := 17) (b := true) (by kernel_rfl) (by kernel_rfl) h42).trans rfl) ?_
    simp [go_sem, h2]
    exact hK.out _ _ (Below.refl _ _) rfl
  · intro A wx hR hout hdep K hK
    have h44 : A.tmps[44]?.getD undef = (.string nm) := hdep 44 (by kernel_rfl)
    have h45 : A.tmps[45]?.getD undef = (.int .u32 (s : Int)) := hdep 45 (by kernel_rfl)
    have h46 : A.tmps[46]?.getD undef = (.int .u32 (t : Int)) := hdep 46 (by kernel_rfl)
    have h42 : A.tmps[42]?.getD undef = (.bool true) := hdep 42 (by kernel_rfl)
    refine if_yes ((wanted_is (j := 17) (b := true) (by kernel_rfl) (by kernel_rfl) h42).trans rfl) ?_
    simp [go_sem, h44, h45, h46]
    refine (K5.out wx).mono ?_
    rintro e wG ⟨rfl, rfl⟩
    exact hK.out _ _ (Below.refl _ _) rfl
  · intro A wx hR hout hdep K hK
    have h3 : A.tmps[3]?.getD undef = (.pointer (some ⟨w.heap.size, 0, none⟩)) := hout 3 (by kernel_rfl)
    have h42 : A.tmps[42]?.getD undef = (.bool true) := hdep 42 (by kernel_rfl)
    refine if_yes ((wanted_is (j := 17) (b := true) (by kernel_rfl) (by kernel_rfl) h42).trans rfl) ?_
    simp [go_sem, h3]
    exact hK.out _ _ (Below.refl _ _) rfl
  · intro A wx hR hout hdep K hK
    have h48 : A.tmps[48]?.getD undef = (.pointer (some ⟨w.heap.size, 0, none⟩)) := hdep 48 (by kernel_rfl)
    have h42 : A.tmps[42]?.getD undef = (.bool true) := hdep 42 (by kernel_rfl)
    refine if_yes ((wanted_is (j := 17) (b := true) (by kernel_rfl) (by kernel_rfl) h42).trans rfl) ?_
    have d0 := keep_cell hR d0
    simp [go_sem, h48, d0]
    exact hK.out _ _ (Below.refl _ _) rfl
  · intro A wx hR hout hdep K hK
    have h1 : A.tmps[1]?.getD undef = (.int .u32 (s : Int)) := hout 1 (by kernel_rfl)
    have h42 : A.tmps[42]?.getD undef = (.bool true) := hdep 42 (by kernel_rfl)
    refine if_yes ((wanted_is (j := 17) (b := true) (by kernel_rfl) (by kernel_rfl) h42).trans rfl) ?_
    simp [go_sem, h1]
    exact hK.out _ _ (Below.refl _ _) rfl
  · intro A wx hR hout hdep K hK
    have h2 : A.tmps[2]?.getD undef = (.int .u32 (t : Int)) := hout 2 (by kernel_rfl)
    have h42 : A.tmps[42]?.getD undef = (.bool true) := hdep 42 (by kernel_rfl)
    refine if_yes ((wanted_is (j := 17) (b := true) (by kernel_rfl) (by kernel_rfl) h42).trans rfl) ?_
    simp [go_sem, h2]
    exact hK.out _ _ (Below.refl _ _) rfl
  · intro A wx hR hout hdep K hK
    have h49 : A.tmps[49]?.getD undef = (.string nm) := hdep 49 (by kernel_rfl)
    have h50 : A.tmps[50]?.getD undef = (.int .u32 (s : Int)) := hdep 50 (by kernel_rfl)
    have h51 : A.tmps[51]?.getD undef = (.int .u32 (t : Int)) := hdep 51 (by kernel_rfl)
    have h42 : A.tmps[42]?.getD undef = (.bool true) := hdep 42 (by kernel_rfl)
    refine if_yes ((wanted_is (j := 17) (b := true) (by kernel_rfl) (by kernel_rfl) h42).trans rfl) ?_
    simp [go_sem, h49, h50, h51]
    refine (K6.out wx).mono ?_
    rintro e wG ⟨rfl, rfl⟩
    exact hK.out _ _ (Below.refl _ _) rfl
  · intro A wx hR hout hdep K hK
    have h47 : A.tmps[47]?.getD undef = (.bool tb) := hdep 47 (by kernel_rfl)
    have h52 : A.tmps[52]?.getD undef = (.bool tb) := hdep 52 (by kernel_rfl)
    have h42 : A.tmps[42]?.getD undef = (.bool true) := hdep 42 (by kernel_rfl)
    refine if_yes ((wanted_is (j := 17) (b := true) (by kernel_rfl) (by kernel_rfl) h42).trans rfl) ?_
    simp [go_sem, h47, h52]
    exact hK.out _ _ (Below.refl _ _) rfl
  · intro A wx hR hout hdep K hK
    have h42 : A.tmps[42]?.getD undef = (.bool true) := hdep 42 (by kernel_rfl)
    have h53 : A.tmps[53]?.getD undef = (.bool true) := hdep 53 (by kernel_rfl)
    refine if_yes (by kernel_rfl) ?_
    simp [go_sem, h42, h53]
    exact hK.out _ _ (Below.refl _ _) rfl
  · intro A wx hR hout hdep K hK
    have h54 : A.tmps[54]?.getD undef = (.bool true) := hdep 54 (by kernel_rfl)
    refine if_yes (by kernel_rfl) ?_
    simp [go_sem, h54]
    exact hK.out _ _ (Below.refl _ _) rfl
  · intro A wx hR hout hdep K hK
    have h55 : A.tmps[55]?.getD undef = (.bool true) := hdep 55 (by kernel_rfl)
    refine if_yes ((wanted_is (j := 30) (b := true) (by kernel_rfl) (by kernel_rfl) h55).trans rfl) ?_
    simp [go_sem]
    refine (KA.out wx (HT.out _ (below_tr HB5.out hR))).mono ?_
    rintro e wG ⟨rfl, hbG⟩
    exact hK.out _ _ hbG rfl
  · intro A wx hR hout hdep K hK
    have h55 : A.tmps[55]?.getD undef = (.bool true) := hdep 55 (by kernel_rfl)
    have h56 : A.tmps[56]?.getD undef = (.bool true) := hdep 56 (by kernel_rfl)
    refine if_yes (by kernel_rfl) ?_
    simp [go_sem, h55, h56]
    exact hK.out _ _ (Below.refl _ _) rfl
  · intro A wx hR hout hdep K hK
    have h57 : A.tmps[57]?.getD undef = (.bool true) := hdep 57 (by kernel_rfl)
    refine if_yes (by kernel_rfl) ?_
    simp [go_sem, h57]
    exact hK.out _ _ (Below.refl _ _) rfl
  simp only [putSl, Act.put, List.setIfInBounds_toArray, List.set_cons_zero, List.set_cons_succ, show f 6 = .bool true from hf 6 (by kernel_rfl)]
  have HBE : Hid (Below w.heap.size w wy) := below_tr HB.out (below_tr HB5.out hR)
  go_wp2
  go_ret
  exact ⟨rfl, HBE.out⟩
end Go.Proofs.YtogokbefpgaciaaDoor
