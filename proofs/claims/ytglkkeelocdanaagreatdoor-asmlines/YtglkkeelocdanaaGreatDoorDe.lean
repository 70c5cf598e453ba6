/- What is proved here: the document's Encode. -/
import Derived.Test.YtglkkeelocdanaaGreatDoorFt
import Derived.Test.YtglkkeelocdanaaGreatDoorSr
import Derived.Test.YtglkkeelocdanaaGreatDoorBel
namespace Go.Proofs.YtglkkeelocdanaaGreatDoor
open Go.RowKit
set_option linter.unusedVariables false
set_option linter.unusedSimpArgs false
set_option maxRecDepth 100000
/-- The document's word, of an instruction that can be. -/
def wordD (i : In) (r : Dr) : Nat :=
  let w := r.op * 67108864 % 4294967296
  if r.form.toList == [106] then w ||| i.imm
  else if r.form.toList == [99] then (w ||| i.imm * 64 % 4294967296) ||| r.sub
  else if (r.form.toList == [115, 111] || (r.form.toList == [115, 116, 111] || (r.form.toList == [116, 115, 105] || (r.form.toList == [116, 105] || r.form.toList == [116, 109])))) then
    ((w ||| shN i.rs 2097152) ||| (if r.op = 1 then r.sub * 65536 % 4294967296 else shN i.rt 65536)) ||| i.imm
  else if r.form.toList == [100, 115, 100] then ((((w ||| shN i.rs 2097152) ||| shN i.rd 65536) ||| shN i.rd 2048) ||| shN i.sa 64) ||| r.sub
  else if r.form.toList == [100, 116, 114] then ((((w ||| 2097152) ||| shN i.rt 65536) ||| shN i.rd 2048) ||| shN i.sa 64) ||| r.sub
  else if r.form.toList == [100, 116, 118] then ((((w ||| shN i.rs 2097152) ||| shN i.rt 65536) ||| shN i.rd 2048) ||| 64) ||| r.sub
  else if r.form.toList == [100, 116] then ((((w ||| shN i.rs 2097152) ||| shN i.rt 65536) ||| shN i.rd 2048) ||| r.sa * 64 % 4294967296) ||| r.sub
  else ((((w ||| shN i.rs 2097152) ||| shN i.rt 65536) ||| shN i.rd 2048) ||| shN i.sa 64) ||| r.sub
theorem box6d (w : World) (r : Dr) : ∃ W, w.alloc (.cells #[.int .u32 (r.op : Int), .int .u32 (r.sub : Int), .int .u32 (r.sa : Int), .string r.form] 72) = W ∧ Below w.heap.size w W ∧
    W.cell? ⟨w.heap.size, 0, none⟩ = some (.int .u32 (r.op : Int)) ∧ W.cell? ⟨w.heap.size, 1, none⟩ = some (.int .u32 (r.sub : Int)) ∧ W.cell? ⟨w.heap.size, 2, none⟩ = some (.int .u32 (r.sa : Int)) ∧ W.cell? ⟨w.heap.size, 3, none⟩ = some (.string r.form) := by
  obtain ⟨W, h1, h2, _, h3, h4, h5, h6, _⟩ := box4 w (.int .u32 (r.op : Int)) (.int .u32 (r.sub : Int)) (.int .u32 (r.sa : Int)) (.string r.form) 72
  exact ⟨W, h1, h2, h3, h4, h5, h6⟩
/-- The document's Encode. -/
def isInsD (i : In) : Bool := fitD i (selA i.name)
def encD (i : In) : Nat := if isInsD i then wordD i (selA i.name) else 0
set_option maxHeartbeats 4000000 in
theorem encodeD12 (i : In) (hi : i.imm < 4294967296) (r : Dr) (hr : selA i.name = r) (h1 : r.sub < 4294967296) (h2 : r.sa < 4294967296) (h3 : r.form.size < 9223372036854775807) (w : World) : Calls Tryz.prog 15 #[i.val] w fun e w' => e = .returned (.tuple #[.int .u32 ((if fitD i r then wordD i r else 0 : Nat) : Int), .bool (fitD i r)]) ∧ Below w.heap.size w w' := by
  obtain ⟨W, hW, hb, p0, p1, p2, p3, p4, p5⟩ := (fun (w : World) (i : In) => (by
    obtain ⟨W, h1, h2, _, h3⟩ := box6 w (.string i.name) (.int .i64 i.rs) (.int .i64 i.rt) (.int .i64 i.rd) (.int .i64 i.sa) (.int .u32 (i.imm : Int)) 24
    exact ⟨W, h1, h2, h3⟩ : ∃ W, w.alloc (.cells #[.string i.name, .int .i64 i.rs, .int .i64 i.rt, .int .i64 i.rd, .int .i64 i.sa, .int .u32 (i.imm : Int)] 24) = W ∧ Below w.heap.size w W ∧
    W.cell? ⟨w.heap.size, 0, none⟩ = some (.string i.name) ∧ W.cell? ⟨w.heap.size, 1, none⟩ = some (.int .i64 i.rs) ∧ W.cell? ⟨w.heap.size, 2, none⟩ = some (.int .i64 i.rt) ∧ W.cell? ⟨w.heap.size, 3, none⟩ = some (.int .i64 i.rd) ∧ W.cell? ⟨w.heap.size, 4, none⟩ = some (.int .i64 i.sa) ∧ W.cell? ⟨w.heap.size, 5, none⟩ = some (.int .u32 (i.imm : Int)))) w i
  have K22 := special22 i.name W
  rw [hr] at K22
  have K26 : Hid (∀ w', Calls Tryz.prog 41 #[i.val, r.val] w' fun e w'' => e = .returned (.bool (fitD i r)) ∧ Below w'.heap.size w' w'') := fun w' => fit26 i r h3 w'
  have HB : Hid (Below w.heap.size w W) := hb
  generalize fitD i r = fb at K26 ⊢
  obtain ⟨Z, hZ⟩ : ∃ Z, Z = if fb then wordD i r else 0 := ⟨_, rfl⟩
  rw [← hZ]
  have HZ : Hid (Z = if fb then wordD i r else 0) := hZ
  clear hZ hb hr h3
  obtain ⟨nm, rs, rt, rd, sa, imm⟩ := i
  obtain ⟨op, sub, dsa, form⟩ := r
  simp only [In.val, Dr.val] at K22 K26 hW p0 p1 p2 p3 p4 p5 hi h1 h2 ⊢
  go_enter Tryz.func15, Tryz.ntmps15
  go_wp2_with fail
  refine K22.mono ?_
  rintro e w1 ⟨rfl, hb1⟩
  obtain ⟨w2, hw2, hb2, x0, x1, x2, x3⟩ := box6d w1 ⟨op, sub, dsa, form⟩
  have hb12 := below_tr hb1 hb2
  have HB2 : Hid (Below W.heap.size W w2) := hb12
  have p0 := keep_cell hb12 p0
  have p1 := keep_cell hb12 p1
  have p2 := keep_cell hb12 p2
  have p3 := keep_cell hb12 p3
  have p4 := keep_cell hb12 p4
  have p5 := keep_cell hb12 p5
  have K := K26.out w2
  simp only at hw2 x0 x1 x2 x3
  clear K22 K26 hb1 hb2 hb12
  go_wp2_with fail
  refine K.mono ?_
  rintro e w3 ⟨rfl, hb3⟩
  have HBE : Hid (Below w.heap.size w w3) := below_tr HB.out (below_tr HB2.out hb3)
  have p0 := keep_cell hb3 p0
  have p1 := keep_cell hb3 p1
  have p2 := keep_cell hb3 p2
  have p3 := keep_cell hb3 p3
  have p4 := keep_cell hb3 p4
  have p5 := keep_cell hb3 p5
  have x0 := keep_cell hb3 x0
  have x1 := keep_cell hb3 x1
  have x2 := keep_cell hb3 x2
  have x3 := keep_cell hb3 x3
  clear K hb3
  cases fb with
  | false =>
    have HZ0 : Hid (Z = 0) := HZ.out
    clear HZ
    go_wp2
    go_ret2
    exact ⟨by rw [HZ0.out]; rfl, HBE.out⟩
  | true =>
    have s1 : rs % 4294967296 * 2097152 % 4294967296 = _ := shN_is rs 2097152
    have s2 : rt % 4294967296 * 65536 % 4294967296 = _ := shN_is rt 65536
    have s3 : rd % 4294967296 * 2048 % 4294967296 = _ := shN_is rd 2048
    have s4 : sa % 4294967296 * 64 % 4294967296 = _ := shN_is sa 64
    have s5 : rd % 4294967296 * 65536 % 4294967296 = _ := shN_is rd 65536
    have l1 := shN_lt rs 2097152
    have l2 := shN_lt rt 65536
    have l3 := shN_lt rd 2048
    have l4 := shN_lt sa 64
    have l5 := shN_lt rd 65536
    have a0 : (op : Int) * 67108864 % 4294967296 = ((op * 67108864 % 4294967296 : Nat) : Int) := by simp
    have a1 : (imm : Int) * 64 % 4294967296 = ((imm * 64 % 4294967296 : Nat) : Int) := by simp
    have a2 : (sub : Int) * 65536 % 4294967296 = ((sub * 65536 % 4294967296 : Nat) : Int) := by simp
    have a3 : (dsa : Int) * 64 % 4294967296 = ((dsa * 64 % 4294967296 : Nat) : Int) := by simp
    have md : ∀ a : Nat, a % 4294967296 < 4294967296 := fun a => by omega
    have k0 := md (op * 67108864)
    have k1 := md (imm * 64)
    have k2 := md (sub * 65536)
    have k3 := md (dsa * 64)
    clear md
    have HW : Hid (Z = _) := HZ.out.trans (if_pos rfl)
    unfold wordD at HW
    simp only at HW
    generalize shN rs 2097152 = S1 at *
    generalize shN rt 65536 = S2 at *
    generalize shN rd 2048 = S3 at *
    generalize shN sa 64 = S4 at *
    generalize shN rd 65536 = S5 at *
    clear HZ
    obtain ⟨O, hO⟩ : ∃ z, z = op * 67108864 % 4294967296 := ⟨_, rfl⟩
    obtain ⟨M6, hM6⟩ : ∃ z, z = imm * 64 % 4294967296 := ⟨_, rfl⟩
    obtain ⟨U6, hU6⟩ : ∃ z, z = sub * 65536 % 4294967296 := ⟨_, rfl⟩
    obtain ⟨D6, hD6⟩ : ∃ z, z = dsa * 64 % 4294967296 := ⟨_, rfl⟩
    rw [← hO] at a0 k0 HW
    rw [← hM6] at a1 k1 HW
    rw [← hU6] at a2 k2 HW
    rw [← hD6] at a3 k3 HW
    have HO : Hid (O = op * 67108864 % 4294967296) := hO
    clear hO hM6 hU6 hD6
    cases e0 : (form.toList == [106]) with
    | true =>
      have o0 : bits BinOp.or IntKind.u32 ((O : Nat) : Int) ((imm : Nat) : Int) = _ := or_u32 O imm k0 hi
      have n0 := or_lt _ _ k0 hi
      obtain ⟨G0, hG0⟩ : ∃ z, z = O ||| imm := ⟨_, rfl⟩
      rw [← hG0] at o0 n0
      have HZ1 : Hid (Z = G0) := by
        show _ = _
        have h := HW.out
        simp only [if_true, if_false, Bool.false_eq_true, Bool.or_true, Bool.true_or, Bool.or_false, Bool.or_self, e0] at h
        rw [h]; rw [← hG0]
      clear HW hG0 n0
      go_wp2
      go_ret2
      exact ⟨by rw [HZ1.out]; rfl, HBE.out⟩
    | false =>
      cases e1 : (form.toList == [99]) with
      | true =>
        have o0 : bits BinOp.or IntKind.u32 ((O : Nat) : Int) ((M6 : Nat) : Int) = _ := or_u32 O M6 k0 k1
        have n0 := or_lt _ _ k0 k1
        obtain ⟨G0, hG0⟩ : ∃ z, z = O ||| M6 := ⟨_, rfl⟩
        rw [← hG0] at o0 n0
        have o1 : bits BinOp.or IntKind.u32 ((G0 : Nat) : Int) ((sub : Nat) : Int) = _ := or_u32 G0 sub n0 h1
        have n1 := or_lt _ _ n0 h1
        obtain ⟨G1, hG1⟩ : ∃ z, z = G0 ||| sub := ⟨_, rfl⟩
        rw [← hG1] at o1 n1
        have HZ1 : Hid (Z = G1) := by
          show _ = _
          have h := HW.out
          simp only [if_true, if_false, Bool.false_eq_true, Bool.or_true, Bool.true_or, Bool.or_false, Bool.or_self, e0, e1] at h
          rw [h]; rw [← hG0]; rw [← hG1]
        clear HW hG0 n0 hG1 n1
        go_wp2
        go_ret2
        exact ⟨by rw [HZ1.out]; rfl, HBE.out⟩
      | false =>
        cases e2 : (form.toList == [115, 111]) with
        | true =>
          by_cases ho : op = 1
          · subst ho
            have hO1 : O = 67108864 := HO.out
            subst hO1
            have o0 : bits BinOp.or IntKind.u32 67108864 ((S1 : Nat) : Int) = _ := or_u32 67108864 S1 k0 l1
            have n0 := or_lt _ _ k0 l1
            obtain ⟨G0, hG0⟩ : ∃ z, z = 67108864 ||| S1 := ⟨_, rfl⟩
            rw [← hG0] at o0 n0
            have o1 : bits BinOp.or IntKind.u32 ((G0 : Nat) : Int) ((U6 : Nat) : Int) = _ := or_u32 G0 U6 n0 k2
            have n1 := or_lt _ _ n0 k2
            obtain ⟨G1, hG1⟩ : ∃ z, z = G0 ||| U6 := ⟨_, rfl⟩
            rw [← hG1] at o1 n1
            have o2 : bits BinOp.or IntKind.u32 ((G1 : Nat) : Int) ((imm : Nat) : Int) = _ := or_u32 G1 imm n1 hi
            have n2 := or_lt _ _ n1 hi
            obtain ⟨G2, hG2⟩ : ∃ z, z = G1 ||| imm := ⟨_, rfl⟩
            rw [← hG2] at o2 n2
            have HZ1 : Hid (Z = G2) := by
              show _ = _
              have h := HW.out
              simp only [if_true, if_false, Bool.false_eq_true, Bool.or_true, Bool.true_or, Bool.or_false, Bool.or_self, e0, e1, e2] at h
              rw [h]; rw [← hG0]; rw [← hG1]; rw [← hG2]
            clear HW hG0 n0 hG1 n1 hG2 n2
            go_wp2
            go_ret2
            exact ⟨by rw [HZ1.out]; rfl, HBE.out⟩
          · have ho' : ((op : Int) == 1) = false := by simp; omega
            have o0 : bits BinOp.or IntKind.u32 ((O : Nat) : Int) ((S1 : Nat) : Int) = _ := or_u32 O S1 k0 l1
            have n0 := or_lt _ _ k0 l1
            obtain ⟨G0, hG0⟩ : ∃ z, z = O ||| S1 := ⟨_, rfl⟩
            rw [← hG0] at o0 n0
            have o1 : bits BinOp.or IntKind.u32 ((G0 : Nat) : Int) ((S2 : Nat) : Int) = _ := or_u32 G0 S2 n0 l2
            have n1 := or_lt _ _ n0 l2
            obtain ⟨G1, hG1⟩ : ∃ z, z = G0 ||| S2 := ⟨_, rfl⟩
            rw [← hG1] at o1 n1
            have o2 : bits BinOp.or IntKind.u32 ((G1 : Nat) : Int) ((imm : Nat) : Int) = _ := or_u32 G1 imm n1 hi
            have n2 := or_lt _ _ n1 hi
            obtain ⟨G2, hG2⟩ : ∃ z, z = G1 ||| imm := ⟨_, rfl⟩
            rw [← hG2] at o2 n2
            have HZ1 : Hid (Z = G2) := by
              show _ = _
              have h := HW.out
              simp only [if_true, if_false, Bool.false_eq_true, Bool.or_true, Bool.true_or, Bool.or_false, Bool.or_self, e0, e1, e2, ho] at h
              rw [h]; rw [← hG0]; rw [← hG1]; rw [← hG2]
            clear HW hG0 n0 hG1 n1 hG2 n2
            go_wp2
            go_ret2
            exact ⟨by rw [HZ1.out]; rfl, HBE.out⟩
        | false =>
          cases e3 : (form.toList == [115, 116, 111]) with
          | true =>
            by_cases ho : op = 1
            · subst ho
              have hO1 : O = 67108864 := HO.out
              subst hO1
              have o0 : bits BinOp.or IntKind.u32 67108864 ((S1 : Nat) : Int) = _ := or_u32 67108864 S1 k0 l1
              have n0 := or_lt _ _ k0 l1
              obtain ⟨G0, hG0⟩ : ∃ z, z = 67108864 ||| S1 := ⟨_, rfl⟩
              rw [← hG0] at o0 n0
              have o1 : bits BinOp.or IntKind.u32 ((G0 : Nat) : Int) ((U6 : Nat) : Int) = _ := or_u32 G0 U6 n0 k2
              have n1 := or_lt _ _ n0 k2
              obtain ⟨G1, hG1⟩ : ∃ z, z = G0 ||| U6 := ⟨_, rfl⟩
              rw [← hG1] at o1 n1
              have o2 : bits BinOp.or IntKind.u32 ((G1 : Nat) : Int) ((imm : Nat) : Int) = _ := or_u32 G1 imm n1 hi
              have n2 := or_lt _ _ n1 hi
              obtain ⟨G2, hG2⟩ : ∃ z, z = G1 ||| imm := ⟨_, rfl⟩
              rw [← hG2] at o2 n2
              have HZ1 : Hid (Z = G2) := by
                show _ = _
                have h := HW.out
                simp only [if_true, if_false, Bool.false_eq_true, Bool.or_true, Bool.true_or, Bool.or_false, Bool.or_self, e0, e1, e2, e3] at h
                rw [h]; rw [← hG0]; rw [← hG1]; rw [← hG2]
              clear HW hG0 n0 hG1 n1 hG2 n2
              go_wp2
              go_ret2
              exact ⟨by rw [HZ1.out]; rfl, HBE.out⟩
            · have ho' : ((op : Int) == 1) = false := by simp; omega
              have o0 : bits BinOp.or IntKind.u32 ((O : Nat) : Int) ((S1 : Nat) : Int) = _ := or_u32 O S1 k0 l1
              have n0 := or_lt _ _ k0 l1
              obtain ⟨G0, hG0⟩ : ∃ z, z = O ||| S1 := ⟨_, rfl⟩
              rw [← hG0] at o0 n0
              have o1 : bits BinOp.or IntKind.u32 ((G0 : Nat) : Int) ((S2 : Nat) : Int) = _ := or_u32 G0 S2 n0 l2
              have n1 := or_lt _ _ n0 l2
              obtain ⟨G1, hG1⟩ : ∃ z, z = G0 ||| S2 := ⟨_, rfl⟩
              rw [← hG1] at o1 n1
              have o2 : bits BinOp.or IntKind.u32 ((G1 : Nat) : Int) ((imm : Nat) : Int) = _ := or_u32 G1 imm n1 hi
              have n2 := or_lt _ _ n1 hi
              obtain ⟨G2, hG2⟩ : ∃ z, z = G1 ||| imm := ⟨_, rfl⟩
              rw [← hG2] at o2 n2
              have HZ1 : Hid (Z = G2) := by
                show _ = _
                have h := HW.out
                simp only [if_true, if_false, Bool.false_eq_true, Bool.or_true, Bool.true_or, Bool.or_false, Bool.or_self, e0, e1, e2, e3, ho] at h
                rw [h]; rw [← hG0]; rw [← hG1]; rw [← hG2]
              clear HW hG0 n0 hG1 n1 hG2 n2
              go_wp2
              go_ret2
              exact ⟨by rw [HZ1.out]; rfl, HBE.out⟩
          | false =>
            cases e4 : (form.toList == [116, 115, 105]) with
            | true =>
              by_cases ho : op = 1
              · subst ho
                have hO1 : O = 67108864 := HO.out
                subst hO1
                have o0 : bits BinOp.or IntKind.u32 67108864 ((S1 : Nat) : Int) = _ := or_u32 67108864 S1 k0 l1
                have n0 := or_lt _ _ k0 l1
                obtain ⟨G0, hG0⟩ : ∃ z, z = 67108864 ||| S1 := ⟨_, rfl⟩
                rw [← hG0] at o0 n0
                have o1 : bits BinOp.or IntKind.u32 ((G0 : Nat) : Int) ((U6 : Nat) : Int) = _ := or_u32 G0 U6 n0 k2
                have n1 := or_lt _ _ n0 k2
                obtain ⟨G1, hG1⟩ : ∃ z, z = G0 ||| U6 := ⟨_, rfl⟩
                rw [← hG1] at o1 n1
                have o2 : bits BinOp.or IntKind.u32 ((G1 : Nat) : Int) ((imm : Nat) : Int) = _ := or_u32 G1 imm n1 hi
                have n2 := or_lt _ _ n1 hi
                obtain ⟨G2, hG2⟩ : ∃ z, z = G1 ||| imm := ⟨_, rfl⟩
                rw [← hG2] at o2 n2
                have HZ1 : Hid (Z = G2) := by
                  show _ = _
                  have h := HW.out
                  simp only [if_true, if_false, Bool.false_eq_true, Bool.or_true, Bool.true_or, Bool.or_false, Bool.or_self, e0, e1, e2, e3, e4] at h
                  rw [h]; rw [← hG0]; rw [← hG1]; rw [← hG2]
                clear HW hG0 n0 hG1 n1 hG2 n2
                go_wp2
                go_ret2
                exact ⟨by rw [HZ1.out]; rfl, HBE.out⟩
              · have ho' : ((op : Int) == 1) = false := by simp; omega
                have o0 : bits BinOp.or IntKind.u32 ((O : Nat) : Int) ((S1 : Nat) : Int) = _ := or_u32 O S1 k0 l1
                have n0 := or_lt _ _ k0 l1
                obtain ⟨G0, hG0⟩ : ∃ z, z = O ||| S1 := ⟨_, rfl⟩
                rw [← hG0] at o0 n0
                have o1 : bits BinOp.or IntKind.u32 ((G0 : Nat) : Int) ((S2 : Nat) : Int) = _ := or_u32 G0 S2 n0 l2
                have n1 := or_lt _ _ n0 l2
                obtain ⟨G1, hG1⟩ : ∃ z, z = G0 ||| S2 := ⟨_, rfl⟩
                rw [← hG1] at o1 n1
                have o2 : bits BinOp.or IntKind.u32 ((G1 : Nat) : Int) ((imm : Nat) : Int) = _ := or_u32 G1 imm n1 hi
                have n2 := or_lt _ _ n1 hi
                obtain ⟨G2, hG2⟩ : ∃ z, z = G1 ||| imm := ⟨_, rfl⟩
                rw [← hG2] at o2 n2
                have HZ1 : Hid (Z = G2) := by
                  show _ = _
                  have h := HW.out
                  simp only [if_true, if_false, Bool.false_eq_true, Bool.or_true, Bool.true_or, Bool.or_false, Bool.or_self, e0, e1, e2, e3, e4, ho] at h
                  rw [h]; rw [← hG0]; rw [← hG1]; rw [← hG2]
                clear HW hG0 n0 hG1 n1 hG2 n2
                go_wp2
                go_ret2
                exact ⟨by rw [HZ1.out]; rfl, HBE.out⟩
            | false =>
              cases e5 : (form.toList == [116, 105]) with
              | true =>
                by_cases ho : op = 1
                · subst ho
                  have hO1 : O = 67108864 := HO.out
                  subst hO1
                  have o0 : bits BinOp.or IntKind.u32 67108864 ((S1 : Nat) : Int) = _ := or_u32 67108864 S1 k0 l1
                  have n0 := or_lt _ _ k0 l1
                  obtain ⟨G0, hG0⟩ : ∃ z, z = 67108864 ||| S1 := ⟨_, rfl⟩
                  rw [← hG0] at o0 n0
                  have o1 : bits BinOp.or IntKind.u32 ((G0 : Nat) : Int) ((U6 : Nat) : Int) = _ := or_u32 G0 U6 n0 k2
                  have n1 := or_lt _ _ n0 k2
                  obtain ⟨G1, hG1⟩ : ∃ z, z = G0 ||| U6 := ⟨_, rfl⟩
                  rw [← hG1] at o1 n1
                  have o2 : bits BinOp.or IntKind.u32 ((G1 : Nat) : Int) ((imm : Nat) : Int) = _ := or_u32 G1 imm n1 hi
                  have n2 := or_lt _ _ n1 hi
                  obtain ⟨G2, hG2⟩ : ∃ z, z = G1 ||| imm := ⟨_, rfl⟩
                  rw [← hG2] at o2 n2
                  have HZ1 : Hid (Z = G2) := by
                    show _ = _
                    have h := HW.out
                    simp only [if_true, if_false, Bool.false_eq_true, Bool.or_true, Bool.true_or, Bool.or_false, Bool.or_self, e0, e1, e2, e3, e4, e5] at h
                    rw [h]; rw [← hG0]; rw [← hG1]; rw [← hG2]
                  clear HW hG0 n0 hG1 n1 hG2 n2
                  go_wp2
                  go_ret2
                  exact ⟨by rw [HZ1.out]; rfl, HBE.out⟩
                · have ho' : ((op : Int) == 1) = false := by simp; omega
                  have o0 : bits BinOp.or IntKind.u32 ((O : Nat) : Int) ((S1 : Nat) : Int) = _ := or_u32 O S1 k0 l1
                  have n0 := or_lt _ _ k0 l1
                  obtain ⟨G0, hG0⟩ : ∃ z, z = O ||| S1 := ⟨_, rfl⟩
                  rw [← hG0] at o0 n0
                  have o1 : bits BinOp.or IntKind.u32 ((G0 : Nat) : Int) ((S2 : Nat) : Int) = _ := or_u32 G0 S2 n0 l2
                  have n1 := or_lt _ _ n0 l2
                  obtain ⟨G1, hG1⟩ : ∃ z, z = G0 ||| S2 := ⟨_, rfl⟩
                  rw [← hG1] at o1 n1
                  have o2 : bits BinOp.or IntKind.u32 ((G1 : Nat) : Int) ((imm : Nat) : Int) = _ := or_u32 G1 imm n1 hi
                  have n2 := or_lt _ _ n1 hi
                  obtain ⟨G2, hG2⟩ : ∃ z, z = G1 ||| imm := ⟨_, rfl⟩
                  rw [← hG2] at o2 n2
                  have HZ1 : Hid (Z = G2) := by
                    show _ = _
                    have h := HW.out
                    simp only [if_true, if_false, Bool.false_eq_true, Bool.or_true, Bool.true_or, Bool.or_false, Bool.or_self, e0, e1, e2, e3, e4, e5, ho] at h
                    rw [h]; rw [← hG0]; rw [← hG1]; rw [← hG2]
                  clear HW hG0 n0 hG1 n1 hG2 n2
                  go_wp2
                  go_ret2
                  exact ⟨by rw [HZ1.out]; rfl, HBE.out⟩
              | false =>
                cases e6 : (form.toList == [116, 109]) with
                | true =>
                  by_cases ho : op = 1
                  · subst ho
                    have hO1 : O = 67108864 := HO.out
                    subst hO1
                    have o0 : bits BinOp.or IntKind.u32 67108864 ((S1 : Nat) : Int) = _ := or_u32 67108864 S1 k0 l1
                    have n0 := or_lt _ _ k0 l1
                    obtain ⟨G0, hG0⟩ : ∃ z, z = 67108864 ||| S1 := ⟨_, rfl⟩
                    rw [← hG0] at o0 n0
                    have o1 : bits BinOp.or IntKind.u32 ((G0 : Nat) : Int) ((U6 : Nat) : Int) = _ := or_u32 G0 U6 n0 k2
                    have n1 := or_lt _ _ n0 k2
                    obtain ⟨G1, hG1⟩ : ∃ z, z = G0 ||| U6 := ⟨_, rfl⟩
                    rw [← hG1] at o1 n1
                    have o2 : bits BinOp.or IntKind.u32 ((G1 : Nat) : Int) ((imm : Nat) : Int) = _ := or_u32 G1 imm n1 hi
                    have n2 := or_lt _ _ n1 hi
                    obtain ⟨G2, hG2⟩ : ∃ z, z = G1 ||| imm := ⟨_, rfl⟩
                    rw [← hG2] at o2 n2
                    have HZ1 : Hid (Z = G2) := by
                      show _ = _
                      have h := HW.out
                      simp only [if_true, if_false, Bool.false_eq_true, Bool.or_true, Bool.true_or, Bool.or_false, Bool.or_self, e0, e1, e2, e3, e4, e5, e6] at h
                      rw [h]; rw [← hG0]; rw [← hG1]; rw [← hG2]
                    clear HW hG0 n0 hG1 n1 hG2 n2
                    go_wp2
                    go_ret2
                    exact ⟨by rw [HZ1.out]; rfl, HBE.out⟩
                  · have ho' : ((op : Int) == 1) = false := by simp; omega
                    have o0 : bits BinOp.or IntKind.u32 ((O : Nat) : Int) ((S1 : Nat) : Int) = _ := or_u32 O S1 k0 l1
                    have n0 := or_lt _ _ k0 l1
                    obtain ⟨G0, hG0⟩ : ∃ z, z = O ||| S1 := ⟨_, rfl⟩
                    rw [← hG0] at o0 n0
                    have o1 : bits BinOp.or IntKind.u32 ((G0 : Nat) : Int) ((S2 : Nat) : Int) = _ := or_u32 G0 S2 n0 l2
                    have n1 := or_lt _ _ n0 l2
                    obtain ⟨G1, hG1⟩ : ∃ z, z = G0 ||| S2 := ⟨_, rfl⟩
                    rw [← hG1] at o1 n1
                    have o2 : bits BinOp.or IntKind.u32 ((G1 : Nat) : Int) ((imm : Nat) : Int) = _ := or_u32 G1 imm n1 hi
                    have n2 := or_lt _ _ n1 hi
                    obtain ⟨G2, hG2⟩ : ∃ z, z = G1 ||| imm := ⟨_, rfl⟩
                    rw [← hG2] at o2 n2
                    have HZ1 : Hid (Z = G2) := by
                      show _ = _
                      have h := HW.out
                      simp only [if_true, if_false, Bool.false_eq_true, Bool.or_true, Bool.true_or, Bool.or_false, Bool.or_self, e0, e1, e2, e3, e4, e5, e6, ho] at h
                      rw [h]; rw [← hG0]; rw [← hG1]; rw [← hG2]
                    clear HW hG0 n0 hG1 n1 hG2 n2
                    go_wp2
                    go_ret2
                    exact ⟨by rw [HZ1.out]; rfl, HBE.out⟩
                | false =>
                  cases e7 : (form.toList == [100, 115, 100]) with
                  | true =>
                    have o0 : bits BinOp.or IntKind.u32 ((O : Nat) : Int) ((S1 : Nat) : Int) = _ := or_u32 O S1 k0 l1
                    have n0 := or_lt _ _ k0 l1
                    obtain ⟨G0, hG0⟩ : ∃ z, z = O ||| S1 := ⟨_, rfl⟩
                    rw [← hG0] at o0 n0
                    have o1 : bits BinOp.or IntKind.u32 ((G0 : Nat) : Int) ((S5 : Nat) : Int) = _ := or_u32 G0 S5 n0 l5
                    have n1 := or_lt _ _ n0 l5
                    obtain ⟨G1, hG1⟩ : ∃ z, z = G0 ||| S5 := ⟨_, rfl⟩
                    rw [← hG1] at o1 n1
                    have o2 : bits BinOp.or IntKind.u32 ((G1 : Nat) : Int) ((S3 : Nat) : Int) = _ := or_u32 G1 S3 n1 l3
                    have n2 := or_lt _ _ n1 l3
                    obtain ⟨G2, hG2⟩ : ∃ z, z = G1 ||| S3 := ⟨_, rfl⟩
                    rw [← hG2] at o2 n2
                    have o3 : bits BinOp.or IntKind.u32 ((G2 : Nat) : Int) ((S4 : Nat) : Int) = _ := or_u32 G2 S4 n2 l4
                    have n3 := or_lt _ _ n2 l4
                    obtain ⟨G3, hG3⟩ : ∃ z, z = G2 ||| S4 := ⟨_, rfl⟩
                    rw [← hG3] at o3 n3
                    have o4 : bits BinOp.or IntKind.u32 ((G3 : Nat) : Int) ((sub : Nat) : Int) = _ := or_u32 G3 sub n3 h1
                    have n4 := or_lt _ _ n3 h1
                    obtain ⟨G4, hG4⟩ : ∃ z, z = G3 ||| sub := ⟨_, rfl⟩
                    rw [← hG4] at o4 n4
                    have HZ1 : Hid (Z = G4) := by
                      show _ = _
                      have h := HW.out
                      simp only [if_true, if_false, Bool.false_eq_true, Bool.or_true, Bool.true_or, Bool.or_false, Bool.or_self, e0, e1, e2, e3, e4, e5, e6, e7] at h
                      rw [h]; rw [← hG0]; rw [← hG1]; rw [← hG2]; rw [← hG3]; rw [← hG4]
                    clear HW hG0 n0 hG1 n1 hG2 n2 hG3 n3 hG4 n4
                    go_wp2
                    go_ret2
                    exact ⟨by rw [HZ1.out]; rfl, HBE.out⟩
                  | false =>
                    cases e8 : (form.toList == [100, 116, 114]) with
                    | true =>
                      have o0 : bits BinOp.or IntKind.u32 ((O : Nat) : Int) 2097152 = _ := or_u32 O 2097152 k0 (show 2097152 < 4294967296 by decide)
                      have n0 := or_lt _ _ k0 (show 2097152 < 4294967296 by decide)
                      obtain ⟨G0, hG0⟩ : ∃ z, z = O ||| 2097152 := ⟨_, rfl⟩
                      rw [← hG0] at o0 n0
                      have o1 : bits BinOp.or IntKind.u32 ((G0 : Nat) : Int) ((S2 : Nat) : Int) = _ := or_u32 G0 S2 n0 l2
                      have n1 := or_lt _ _ n0 l2
                      obtain ⟨G1, hG1⟩ : ∃ z, z = G0 ||| S2 := ⟨_, rfl⟩
                      rw [← hG1] at o1 n1
                      have o2 : bits BinOp.or IntKind.u32 ((G1 : Nat) : Int) ((S3 : Nat) : Int) = _ := or_u32 G1 S3 n1 l3
                      have n2 := or_lt _ _ n1 l3
                      obtain ⟨G2, hG2⟩ : ∃ z, z = G1 ||| S3 := ⟨_, rfl⟩
                      rw [← hG2] at o2 n2
                      have o3 : bits BinOp.or IntKind.u32 ((G2 : Nat) : Int) ((S4 : Nat) : Int) = _ := or_u32 G2 S4 n2 l4
                      have n3 := or_lt _ _ n2 l4
                      obtain ⟨G3, hG3⟩ : ∃ z, z = G2 ||| S4 := ⟨_, rfl⟩
                      rw [← hG3] at o3 n3
                      have o4 : bits BinOp.or IntKind.u32 ((G3 : Nat) : Int) ((sub : Nat) : Int) = _ := or_u32 G3 sub n3 h1
                      have n4 := or_lt _ _ n3 h1
                      obtain ⟨G4, hG4⟩ : ∃ z, z = G3 ||| sub := ⟨_, rfl⟩
                      rw [← hG4] at o4 n4
                      have HZ1 : Hid (Z = G4) := by
                        show _ = _
                        have h := HW.out
                        simp only [if_true, if_false, Bool.false_eq_true, Bool.or_true, Bool.true_or, Bool.or_false, Bool.or_self, e0, e1, e2, e3, e4, e5, e6, e7, e8] at h
                        rw [h]; rw [← hG0]; rw [← hG1]; rw [← hG2]; rw [← hG3]; rw [← hG4]
                      clear HW hG0 n0 hG1 n1 hG2 n2 hG3 n3 hG4 n4
                      go_wp2
                      go_ret2
                      exact ⟨by rw [HZ1.out]; rfl, HBE.out⟩
                    | false =>
                      cases e9 : (form.toList == [100, 116, 118]) with
                      | true =>
                        have o0 : bits BinOp.or IntKind.u32 ((O : Nat) : Int) ((S1 : Nat) : Int) = _ := or_u32 O S1 k0 l1
                        have n0 := or_lt _ _ k0 l1
                        obtain ⟨G0, hG0⟩ : ∃ z, z = O ||| S1 := ⟨_, rfl⟩
                        rw [← hG0] at o0 n0
                        have o1 : bits BinOp.or IntKind.u32 ((G0 : Nat) : Int) ((S2 : Nat) : Int) = _ := or_u32 G0 S2 n0 l2
                        have n1 := or_lt _ _ n0 l2
                        obtain ⟨G1, hG1⟩ : ∃ z, z = G0 ||| S2 := ⟨_, rfl⟩
                        rw [← hG1] at o1 n1
                        have o2 : bits BinOp.or IntKind.u32 ((G1 : Nat) : Int) ((S3 : Nat) : Int) = _ := or_u32 G1 S3 n1 l3
                        have n2 := or_lt _ _ n1 l3
                        obtain ⟨G2, hG2⟩ : ∃ z, z = G1 ||| S3 := ⟨_, rfl⟩
                        rw [← hG2] at o2 n2
                        have o3 : bits BinOp.or IntKind.u32 ((G2 : Nat) : Int) 64 = _ := or_u32 G2 64 n2 (show 64 < 4294967296 by decide)
                        have n3 := or_lt _ _ n2 (show 64 < 4294967296 by decide)
                        obtain ⟨G3, hG3⟩ : ∃ z, z = G2 ||| 64 := ⟨_, rfl⟩
                        rw [← hG3] at o3 n3
                        have o4 : bits BinOp.or IntKind.u32 ((G3 : Nat) : Int) ((sub : Nat) : Int) = _ := or_u32 G3 sub n3 h1
                        have n4 := or_lt _ _ n3 h1
                        obtain ⟨G4, hG4⟩ : ∃ z, z = G3 ||| sub := ⟨_, rfl⟩
                        rw [← hG4] at o4 n4
                        have HZ1 : Hid (Z = G4) := by
                          show _ = _
                          have h := HW.out
                          simp only [if_true, if_false, Bool.false_eq_true, Bool.or_true, Bool.true_or, Bool.or_false, Bool.or_self, e0, e1, e2, e3, e4, e5, e6, e7, e8, e9] at h
                          rw [h]; rw [← hG0]; rw [← hG1]; rw [← hG2]; rw [← hG3]; rw [← hG4]
                        clear HW hG0 n0 hG1 n1 hG2 n2 hG3 n3 hG4 n4
                        go_wp2
                        go_ret2
                        exact ⟨by rw [HZ1.out]; rfl, HBE.out⟩
                      | false =>
                        cases e10 : (form.toList == [100, 116]) with
                        | true =>
                          have o0 : bits BinOp.or IntKind.u32 ((O : Nat) : Int) ((S1 : Nat) : Int) = _ := or_u32 O S1 k0 l1
                          have n0 := or_lt _ _ k0 l1
                          obtain ⟨G0, hG0⟩ : ∃ z, z = O ||| S1 := ⟨_, rfl⟩
                          rw [← hG0] at o0 n0
                          have o1 : bits BinOp.or IntKind.u32 ((G0 : Nat) : Int) ((S2 : Nat) : Int) = _ := or_u32 G0 S2 n0 l2
                          have n1 := or_lt _ _ n0 l2
                          obtain ⟨G1, hG1⟩ : ∃ z, z = G0 ||| S2 := ⟨_, rfl⟩
                          rw [← hG1] at o1 n1
                          have o2 : bits BinOp.or IntKind.u32 ((G1 : Nat) : Int) ((S3 : Nat) : Int) = _ := or_u32 G1 S3 n1 l3
                          have n2 := or_lt _ _ n1 l3
                          obtain ⟨G2, hG2⟩ : ∃ z, z = G1 ||| S3 := ⟨_, rfl⟩
                          rw [← hG2] at o2 n2
                          have o3 : bits BinOp.or IntKind.u32 ((G2 : Nat) : Int) ((D6 : Nat) : Int) = _ := or_u32 G2 D6 n2 k3
                          have n3 := or_lt _ _ n2 k3
                          obtain ⟨G3, hG3⟩ : ∃ z, z = G2 ||| D6 := ⟨_, rfl⟩
                          rw [← hG3] at o3 n3
                          have o4 : bits BinOp.or IntKind.u32 ((G3 : Nat) : Int) ((sub : Nat) : Int) = _ := or_u32 G3 sub n3 h1
                          have n4 := or_lt _ _ n3 h1
                          obtain ⟨G4, hG4⟩ : ∃ z, z = G3 ||| sub := ⟨_, rfl⟩
                          rw [← hG4] at o4 n4
                          have HZ1 : Hid (Z = G4) := by
                            show _ = _
                            have h := HW.out
                            simp only [if_true, if_false, Bool.false_eq_true, Bool.or_true, Bool.true_or, Bool.or_false, Bool.or_self, e0, e1, e2, e3, e4, e5, e6, e7, e8, e9, e10] at h
                            rw [h]; rw [← hG0]; rw [← hG1]; rw [← hG2]; rw [← hG3]; rw [← hG4]
                          clear HW hG0 n0 hG1 n1 hG2 n2 hG3 n3 hG4 n4
                          go_wp2
                          go_ret2
                          exact ⟨by rw [HZ1.out]; rfl, HBE.out⟩
                        | false =>
                          have o0 : bits BinOp.or IntKind.u32 ((O : Nat) : Int) ((S1 : Nat) : Int) = _ := or_u32 O S1 k0 l1
                          have n0 := or_lt _ _ k0 l1
                          obtain ⟨G0, hG0⟩ : ∃ z, z = O ||| S1 := ⟨_, rfl⟩
                          rw [← hG0] at o0 n0
                          have o1 : bits BinOp.or IntKind.u32 ((G0 : Nat) : Int) ((S2 : Nat) : Int) = _ := or_u32 G0 S2 n0 l2
                          have n1 := or_lt _ _ n0 l2
                          obtain ⟨G1, hG1⟩ : ∃ z, z = G0 ||| S2 := ⟨_, rfl⟩
                          rw [← hG1] at o1 n1
                          have o2 : bits BinOp.or IntKind.u32 ((G1 : Nat) : Int) ((S3 : Nat) : Int) = _ := or_u32 G1 S3 n1 l3
                          have n2 := or_lt _ _ n1 l3
                          obtain ⟨G2, hG2⟩ : ∃ z, z = G1 ||| S3 := ⟨_, rfl⟩
                          rw [← hG2] at o2 n2
                          have o3 : bits BinOp.or IntKind.u32 ((G2 : Nat) : Int) ((S4 : Nat) : Int) = _ := or_u32 G2 S4 n2 l4
                          have n3 := or_lt _ _ n2 l4
                          obtain ⟨G3, hG3⟩ : ∃ z, z = G2 ||| S4 := ⟨_, rfl⟩
                          rw [← hG3] at o3 n3
                          have o4 : bits BinOp.or IntKind.u32 ((G3 : Nat) : Int) ((sub : Nat) : Int) = _ := or_u32 G3 sub n3 h1
                          have n4 := or_lt _ _ n3 h1
                          obtain ⟨G4, hG4⟩ : ∃ z, z = G3 ||| sub := ⟨_, rfl⟩
                          rw [← hG4] at o4 n4
                          have HZ1 : Hid (Z = G4) := by
                            show _ = _
                            have h := HW.out
                            simp only [if_true, if_false, Bool.false_eq_true, Bool.or_true, Bool.true_or, Bool.or_false, Bool.or_self, e0, e1, e2, e3, e4, e5, e6, e7, e8, e9, e10] at h
                            rw [h]; rw [← hG0]; rw [← hG1]; rw [← hG2]; rw [← hG3]; rw [← hG4]
                          clear HW hG0 n0 hG1 n1 hG2 n2 hG3 n3 hG4 n4
                          go_wp2
                          go_ret2
                          exact ⟨by rw [HZ1.out]; rfl, HBE.out⟩
end Go.Proofs.YtglkkeelocdanaaGreatDoor
