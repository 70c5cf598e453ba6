/- What is proved here: the walk of DecWords. -/
import Derived.Test.YtidehnfgiiobcaaDoorW2
namespace Go.Proofs.YtidehnfgiiobcaaDoor
open Go.RowKit
set_option linter.unusedVariables false
set_option linter.unusedSimpArgs false
set_option maxRecDepth 100000
set_option maxHeartbeats 1000000 in
theorem words_walk (d s t : Nat) (hd : d < 256) (hs : s < 256) (ht' : t < 256) (i j : In) (hi : i.imm < 4294967296) (hj : j.imm < 4294967296) (w : World) (ht : Tab w) : Calls Tryd.prog 7 #[.int .u8 (d : Int), .int .u8 (s : Int), .int .u8 (t : Int), i.val, j.val] w fun e w' => e = .returned (.bool true) ∧ Below w.heap.size w w' := by
  obtain ⟨W0, hW0, hb0, p0, p1, p2, p3, p4, p5⟩ := box6b w i
  obtain ⟨W, hW, hb, q0, q1, q2, q3, q4, q5⟩ := box6b W0 j
  have hz : W0.heap.size = w.heap.size + 1 := by rw [← hW0]; simp
  have p0 := keep_cell hb p0
  have p1 := keep_cell hb p1
  have p2 := keep_cell hb p2
  have p3 := keep_cell hb p3
  have p4 := keep_cell hb p4
  have p5 := keep_cell hb p5
  have HT : Hid (∀ w', Below W.heap.size W w' → Tab w') := fun w' h => ht.keep (below_tr hb0 (below_tr hb h))
  have HB : Hid (Below w.heap.size w W) := below_tr hb0 hb
  obtain ⟨a, ha⟩ : ∃ a, a = d % 32 := ⟨_, rfl⟩
  obtain ⟨b, hb'⟩ : ∃ a, a = s % 32 := ⟨_, rfl⟩
  obtain ⟨c, hc⟩ : ∃ a, a = t % 32 := ⟨_, rfl⟩
  have ma : (d : Int) % 32 = (a : Int) := by omega
  have mb : (s : Int) % 32 = (b : Int) := by omega
  have mc : (t : Int) % 32 = (c : Int) := by omega
  have la : a < 32 := by omega
  have lb : b < 32 := by omega
  have lc : c < 32 := by omega
  have va : (a : Int) % 4294967296 = (a : Int) := by omega
  have vb : (b : Int) % 4294967296 = (b : Int) := by omega
  have vc : (c : Int) % 4294967296 = (c : Int) := by omega
  have wa : IntKind.i64.wrap (a : Int) = (a : Int) := by rw [IntKind.wrap_i64]; omega
  have wb : IntKind.i64.wrap (b : Int) = (b : Int) := by rw [IntKind.wrap_i64]; omega
  have wc : IntKind.i64.wrap (c : Int) = (c : Int) := by rw [IntKind.wrap_i64]; omega
  have KA := addu_word a b c la lb lc
  have KL := lw_word a b c la lb lc
  have E1 : Hid (∀ w', Tab w' → Calls Tryd.prog 11 #[(⟨⟨#[97, 100, 100, 117]⟩, b, c, a, 0, 0⟩ : In).val] w' fun e w'' => e = .returned (.tuple #[.int .u32 (encN ⟨⟨#[97, 100, 100, 117]⟩, b, c, a, 0, 0⟩ : Int), .bool (isIns ⟨⟨#[97, 100, 100, 117]⟩, b, c, a, 0, 0⟩)]) ∧ Below w'.heap.size w' w'') := fun w' h => encode11 _ (by show (0 : Nat) < _; decide) w' h
  have E2 : Hid (∀ w', Tab w' → Calls Tryd.prog 11 #[(⟨⟨#[108, 119]⟩, b, a, 0, 0, c⟩ : In).val] w' fun e w'' => e = .returned (.tuple #[.int .u32 (encN ⟨⟨#[108, 119]⟩, b, a, 0, 0, c⟩ : Int), .bool (isIns ⟨⟨#[108, 119]⟩, b, a, 0, 0, c⟩)]) ∧ Below w'.heap.size w' w'') := fun w' h => encode11 _ (by show c < _; omega) w' h
  rw [KA.1, KA.2] at E1
  rw [KL.1, KL.2] at E2
  have E1 : Hid (∀ w', Tab w' → Calls Tryd.prog 11 #[.agg #[.string ⟨#[97, 100, 100, 117]⟩, .int .i64 (b : Int), .int .i64 (c : Int), .int .i64 (a : Int), .int .i64 0, .int .u32 0]] w' fun e w'' => e = .returned (.tuple #[.int .u32 ((b * 2097152 + c * 65536 + a * 2048 + 33 : Nat) : Int), .bool true]) ∧ Below w'.heap.size w' w'') := E1
  have E2 : Hid (∀ w', Tab w' → Calls Tryd.prog 11 #[.agg #[.string ⟨#[108, 119]⟩, .int .i64 (b : Int), .int .i64 (a : Int), .int .i64 0, .int .i64 0, .int .u32 (c : Int)]] w' fun e w'' => e = .returned (.tuple #[.int .u32 ((2348810240 + b * 2097152 + a * 65536 + c : Nat) : Int), .bool true]) ∧ Below w'.heap.size w' w'') := E2
  have sb : (b : Int) * 2097152 % 4294967296 = ((b * 2 ^ 21 : Nat) : Int) := by rw [show b * 2 ^ 21 = b * 2097152 from rfl]; omega
  have sc : (c : Int) * 65536 % 4294967296 = ((c * 2 ^ 16 : Nat) : Int) := by rw [show c * 2 ^ 16 = c * 65536 from rfl]; omega
  have sa : (a : Int) * 2048 % 4294967296 = ((a * 2 ^ 11 : Nat) : Int) := by rw [show a * 2 ^ 11 = a * 2048 from rfl]; omega
  have sa' : (a : Int) * 65536 % 4294967296 = ((a * 2 ^ 16 : Nat) : Int) := by rw [show a * 2 ^ 16 = a * 65536 from rfl]; omega
  have tb : (b : Int) * 2097152 = ((b * 2 ^ 21 : Nat) : Int) := by rw [show b * 2 ^ 21 = b * 2097152 from rfl]; omega
  have tc : (c : Int) * 65536 = ((c * 2 ^ 16 : Nat) : Int) := by rw [show c * 2 ^ 16 = c * 65536 from rfl]; omega
  have ta : (a : Int) * 2048 = ((a * 2 ^ 11 : Nat) : Int) := by rw [show a * 2 ^ 11 = a * 2048 from rfl]; omega
  have ta' : (a : Int) * 65536 = ((a * 2 ^ 16 : Nat) : Int) := by rw [show a * 2 ^ 16 = a * 65536 from rfl]; omega
  have o1 := or_u32 (b * 2 ^ 21) (c * 2 ^ 16) (by omega) (by omega)
  rw [or_add b _ 21 (by omega)] at o1
  have o2 := or_u32 (b * 2 ^ 21 + c * 2 ^ 16) (a * 2 ^ 11) (by omega) (by omega)
  rw [show b * 2 ^ 21 + c * 2 ^ 16 = (b * 32 + c) * 2 ^ 16 from by omega, or_add _ _ 16 (by omega)] at o2
  have o3 : bits BinOp.or IntKind.u32 (((b * 32 + c) * 2 ^ 16 + a * 2 ^ 11 : Nat) : Int) 33 = _ := or_u32 ((b * 32 + c) * 2 ^ 16 + a * 2 ^ 11) 33 (by omega) (by omega)
  rw [show (b * 32 + c) * 2 ^ 16 + a * 2 ^ 11 = ((b * 32 + c) * 32 + a) * 2 ^ 11 from by omega, or_add _ 33 11 (by omega)] at o3
  have u1 : bits BinOp.or IntKind.u32 2348810240 ((b * 2 ^ 21 : Nat) : Int) = _ := or_u32 2348810240 (b * 2 ^ 21) (by omega) (by omega)
  rw [show (2348810240 : Nat) ||| b * 2 ^ 21 = 2348810240 + b * 2 ^ 21 from by rw [show (2348810240 : Nat) = 35 * 2 ^ 26 from rfl, or_add 35 _ 26 (by omega)]] at u1
  have u2 := or_u32 (2348810240 + b * 2 ^ 21) (a * 2 ^ 16) (by omega) (by omega)
  rw [show 2348810240 + b * 2 ^ 21 = (1120 + b) * 2 ^ 21 from by omega, or_add _ _ 21 (by omega)] at u2
  have u3 := or_u32 ((1120 + b) * 2 ^ 21 + a * 2 ^ 16) c (by omega) (by omega)
  rw [show (1120 + b) * 2 ^ 21 + a * 2 ^ 16 = ((1120 + b) * 32 + a) * 2 ^ 16 from by omega, or_add _ c 16 (by omega)] at u3
  obtain ⟨X, hX⟩ : ∃ X, X = b * 2097152 + c * 65536 + a * 2048 + 33 := ⟨_, rfl⟩
  obtain ⟨Y, hY⟩ : ∃ X, X = 2348810240 + b * 2097152 + a * 65536 + c := ⟨_, rfl⟩
  rw [← hX] at E1
  rw [← hY] at E2
  rw [show ((b * 32 + c) * 32 + a) * 2 ^ 11 + 33 = X from by omega] at o3
  rw [show ((1120 + b) * 32 + a) * 2 ^ 16 + c = Y from by omega] at u3
  rw [show (b * 32 + c) * 2 ^ 16 + a * 2 ^ 11 = ((b * 32 + c) * 32 + a) * 2 ^ 11 from by omega] at o2
  rw [show b * 2 ^ 21 + c * 2 ^ 16 = (b * 32 + c) * 2 ^ 16 from by omega] at o1
  rw [show 2348810240 + b * 2 ^ 21 = (1120 + b) * 2 ^ 21 from by omega] at u1
  rw [show (1120 + b) * 2 ^ 21 + a * 2 ^ 16 = ((1120 + b) * 32 + a) * 2 ^ 16 from by omega] at u2
  obtain ⟨O2, hO2⟩ : ∃ z, z = ((b * 32 + c) * 32 + a) * 2 ^ 11 := ⟨_, rfl⟩
  rw [← hO2] at o2 o3
  obtain ⟨O1, hO1⟩ : ∃ z, z = (b * 32 + c) * 2 ^ 16 := ⟨_, rfl⟩
  rw [← hO1] at o1 o2
  obtain ⟨U2, hU2⟩ : ∃ z, z = ((1120 + b) * 32 + a) * 2 ^ 16 := ⟨_, rfl⟩
  rw [← hU2] at u2 u3
  obtain ⟨U1, hU1⟩ : ∃ z, z = (1120 + b) * 2 ^ 21 := ⟨_, rfl⟩
  rw [← hU1] at u1 u2
  obtain ⟨B1, hB1⟩ : ∃ z, z = b * 2 ^ 21 := ⟨_, rfl⟩
  rw [← hB1] at sb tb o1 u1
  obtain ⟨C1, hC1⟩ : ∃ z, z = c * 2 ^ 16 := ⟨_, rfl⟩
  rw [← hC1] at sc tc o1
  obtain ⟨A1, hA1⟩ : ∃ z, z = a * 2 ^ 11 := ⟨_, rfl⟩
  rw [← hA1] at sa ta o2
  obtain ⟨A2, hA2⟩ : ∃ z, z = a * 2 ^ 16 := ⟨_, rfl⟩
  rw [← hA2] at sa' ta' u2
  have F1 : Hid (∀ w', Tab w' → Calls Tryd.prog 11 #[i.val] w' fun e w'' => e = .returned (.tuple #[.int .u32 (encN i : Int), .bool (isIns i)]) ∧ Below w'.heap.size w' w'') := fun w' h => encode11 i hi w' h
  have F2 : Hid (∀ w', Tab w' → Calls Tryd.prog 11 #[j.val] w' fun e w'' => e = .returned (.tuple #[.int .u32 (encN j : Int), .bool (isIns j)]) ∧ Below w'.heap.size w' w'') := fun w' h => encode11 j hj w' h
  have EQ := fun w' => eq24 i j w'
  have hq : isIns i = true → isIns j = true → ((encN i : Int) == (encN j : Int)) = inEq i j := fun h1 h2 => by
    rw [Bool.eq_iff_iff, inEq_iff]
    constructor
    · intro h
      exact enc_inj h1 h2 (by simp at h; omega)
    · intro h
      rw [h]; simp
  generalize inEq i j = ij at EQ hq
  generalize encN i = EI at F1 hq
  generalize encN j = EJ at F2 hq
  generalize isIns i = ii at F1 hq
  generalize isIns j = jj at F2 hq
  have HQ : Hid (ii = true → jj = true → ((EI : Int) == (EJ : Int)) = ij) := hq
  clear hO2 hO1 hU2 hU1 hB1 hC1 hA1 hA2
  clear hi hj ht hq KA KL hX hY la lb lc ha hb' hc hb hb0 hd hs ht'
  obtain ⟨n1, r1, r2, r3, r4, m1⟩ := i
  obtain ⟨n2, s1, s2, s3, s4, m2⟩ := j
  simp only [In.val] at F1 F2 EQ hW hW0 p0 p1 p2 p3 p4 p5 q0 q1 q2 q3 q4 q5 ⊢
  clear hz
  go_enter Tryd.func7, Tryd.ntmps7
  go_wp2_with fail
  refine (E1.out W (HT.out W (Below.refl _ _))).mono ?_
  rintro e w1 ⟨rfl, hb1⟩
  have HB1 : Hid (Below W.heap.size W w1) := hb1
  have p0 := keep_cell hb1 p0
  have p1 := keep_cell hb1 p1
  have p2 := keep_cell hb1 p2
  have p3 := keep_cell hb1 p3
  have p4 := keep_cell hb1 p4
  have p5 := keep_cell hb1 p5
  have q0 := keep_cell hb1 q0
  have q1 := keep_cell hb1 q1
  have q2 := keep_cell hb1 q2
  have q3 := keep_cell hb1 q3
  have q4 := keep_cell hb1 q4
  have q5 := keep_cell hb1 q5
  have KK1 := E2.out w1 (HT.out w1 HB1.out)
  clear hb1 E1 E2
  go_wp2_with fail
  refine KK1.mono ?_
  rintro e w2 ⟨rfl, hb2⟩
  have HB2 : Hid (Below W.heap.size W w2) := below_tr HB1.out hb2
  have p0 := keep_cell hb2 p0
  have p1 := keep_cell hb2 p1
  have p2 := keep_cell hb2 p2
  have p3 := keep_cell hb2 p3
  have p4 := keep_cell hb2 p4
  have p5 := keep_cell hb2 p5
  have q0 := keep_cell hb2 q0
  have q1 := keep_cell hb2 q1
  have q2 := keep_cell hb2 q2
  have q3 := keep_cell hb2 q3
  have q4 := keep_cell hb2 q4
  have q5 := keep_cell hb2 q5
  have KK2 := F1.out w2 (HT.out w2 HB2.out)
  clear hb2 F1 HB1
  go_wp2_with fail
  refine KK2.mono ?_
  rintro e w3 ⟨rfl, hb3⟩
  have HB3 : Hid (Below W.heap.size W w3) := below_tr HB2.out hb3
  have p0 := keep_cell hb3 p0
  have p1 := keep_cell hb3 p1
  have p2 := keep_cell hb3 p2
  have p3 := keep_cell hb3 p3
  have p4 := keep_cell hb3 p4
  have p5 := keep_cell hb3 p5
  have q0 := keep_cell hb3 q0
  have q1 := keep_cell hb3 q1
  have q2 := keep_cell hb3 q2
  have q3 := keep_cell hb3 q3
  have q4 := keep_cell hb3 q4
  have q5 := keep_cell hb3 q5
  have KK3 := F2.out w3 (HT.out w3 HB3.out)
  clear hb3 F2 HB2
  go_wp2_with fail
  refine KK3.mono ?_
  rintro e w4 ⟨rfl, hb4⟩
  have HB4 : Hid (Below W.heap.size W w4) := below_tr HB3.out hb4
  have p0 := keep_cell hb4 p0
  have p1 := keep_cell hb4 p1
  have p2 := keep_cell hb4 p2
  have p3 := keep_cell hb4 p3
  have p4 := keep_cell hb4 p4
  have p5 := keep_cell hb4 p5
  have q0 := keep_cell hb4 q0
  have q1 := keep_cell hb4 q1
  have q2 := keep_cell hb4 q2
  have q3 := keep_cell hb4 q3
  have q4 := keep_cell hb4 q4
  have q5 := keep_cell hb4 q5
  have KK4 := awake10 w4 (HT.out w4 HB4.out)
  clear hb4 HB3
  cases ii with
  | false =>
    go_wp2_with fail
    refine KK4.mono ?_
    rintro e w5 ⟨rfl, hb5⟩
    have HBE : Hid (Below w.heap.size w w5) := below_tr HB.out (below_tr HB4.out hb5)
    clear hb5 KK4
    go_wp2
    go_ret
    exact ⟨rfl, HBE.out⟩
  | true =>
    cases jj with
    | false =>
      go_wp2_with fail
      refine KK4.mono ?_
      rintro e w5 ⟨rfl, hb5⟩
      have HBE : Hid (Below w.heap.size w w5) := below_tr HB.out (below_tr HB4.out hb5)
      clear hb5 KK4
      go_wp2
      go_ret
      exact ⟨rfl, HBE.out⟩
    | true =>
      have hij := HQ.out rfl rfl
      cases ij with
      | true =>
        go_wp2_with fail
        refine KK4.mono ?_
        rintro e w5 ⟨rfl, hb5⟩
        have HBE : Hid (Below w.heap.size w w5) := below_tr HB.out (below_tr HB4.out hb5)
        clear hb5 KK4
        go_wp2
        go_ret
        exact ⟨rfl, HBE.out⟩
      | false =>
        go_wp2_with fail
        refine KK4.mono ?_
        rintro e w5 ⟨rfl, hb5⟩
        have HBE : Hid (Below w.heap.size w w5) := below_tr HB.out (below_tr HB4.out hb5)
        clear hb5 KK4
        go_wp2
        go_ret
        exact ⟨rfl, HBE.out⟩
end Go.Proofs.YtidehnfgiiobcaaDoor
