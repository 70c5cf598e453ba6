/- What is proved here: the chapter's examples. -/
import Derived.Test.YtidehnfgiiobcaaDoorPl
namespace Go.Proofs.YtidehnfgiiobcaaDoor
open Go.RowKit
set_option linter.unusedVariables false
set_option linter.unusedSimpArgs false
set_option maxRecDepth 100000
theorem ex1 : isWord 8720417 = true ∧ inEq (decN 8720417) ⟨⟨#[97, 100, 100, 117]⟩, 4, 5, 2, 0, 0⟩ = true := by decide +kernel
theorem ex2 : isWord 12 = true ∧ inEq (decN 12) ⟨⟨#[115, 121, 115, 99, 97, 108, 108]⟩, 0, 0, 0, 0, 0⟩ = true := by decide +kernel
theorem ex3 : isWord 4294967295 = false := by decide +kernel
theorem ex4 : (foundR (nameB ⟨#[108, 119]⟩)).form.toList = [116, 109] := by decide +kernel
theorem box6b (w : World) (i : In) : ∃ W, w.alloc (.cells #[.string i.name, .int .i64 i.rs, .int .i64 i.rt, .int .i64 i.rd, .int .i64 i.sa, .int .u32 (i.imm : Int)] 24) = W ∧ Below w.heap.size w W ∧
    W.cell? ⟨w.heap.size, 0, none⟩ = some (.string i.name) ∧ W.cell? ⟨w.heap.size, 1, none⟩ = some (.int .i64 i.rs) ∧ W.cell? ⟨w.heap.size, 2, none⟩ = some (.int .i64 i.rt) ∧ W.cell? ⟨w.heap.size, 3, none⟩ = some (.int .i64 i.rd) ∧ W.cell? ⟨w.heap.size, 4, none⟩ = some (.int .i64 i.sa) ∧ W.cell? ⟨w.heap.size, 5, none⟩ = some (.int .u32 (i.imm : Int)) := by
  obtain ⟨W, h1, h2, _, h3⟩ := box6 w (.string i.name) (.int .i64 i.rs) (.int .i64 i.rt) (.int .i64 i.rd) (.int .i64 i.sa) (.int .u32 (i.imm : Int)) 24
  exact ⟨W, h1, h2, h3⟩
set_option maxHeartbeats 1000000 in
theorem awake10 (w : World) (ht : Tab w) : Calls Tryd.prog 10 #[] w fun e w' => e = .returned (.bool true) ∧ Below w.heap.size w w' := by
  have HT : Hid (∀ w', Below w.heap.size w w' → Tab w') := fun w' h => ht.keep h
  have K1 : Hid (∀ w', Tab w' → Calls Tryd.prog 8 #[.int .u32 8720417] w' fun e w'' => e = .returned (.tuple #[(decN 8720417).val, .bool (isWord 8720417)]) ∧ Below w'.heap.size w' w'') := fun w' h => decode8 8720417 (by decide) w' h
  have K2 : Hid (∀ w', Tab w' → Calls Tryd.prog 8 #[.int .u32 12] w' fun e w'' => e = .returned (.tuple #[(decN 12).val, .bool (isWord 12)]) ∧ Below w'.heap.size w' w'') := fun w' h => decode8 12 (by decide) w' h
  have K3 : Hid (∀ w', Tab w' → Calls Tryd.prog 8 #[.int .u32 4294967295] w' fun e w'' => e = .returned (.tuple #[(decN 4294967295).val, .bool (isWord 4294967295)]) ∧ Below w'.heap.size w' w'') := fun w' h => decode8 4294967295 (by decide) w' h
  have K4 : Hid (∀ w', Calls Tryd.prog 13 #[.string ⟨#[108, 119]⟩] w' fun e w'' => e = .returned (.string (foundR (nameB ⟨#[108, 119]⟩)).form) ∧ Below w'.heap.size w' w'') := fun w' => form13 _ w'
  rw [ex1.1] at K1
  rw [ex2.1] at K2
  rw [ex3] at K3
  have EQ : ∀ w', (binOp .eql 24 (decN 8720417).val (.agg #[.string ⟨#[97, 100, 100, 117]⟩, .int .i64 4, .int .i64 5, .int .i64 2, .int .i64 0, .int .u32 0])).run Tryd.prog w' = .ok (.bool true) w' := fun w' => by
    have h := eq24 (decN 8720417) ⟨⟨#[97, 100, 100, 117]⟩, 4, 5, 2, 0, 0⟩ w'
    rw [ex1.2] at h
    exact h
  have e2 : ((decN 12).name.toList == [115, 121, 115, 99, 97, 108, 108]) = true := by
    have h := (inEq_iff _ _).1 ex2.2
    rw [h]; decide +kernel
  have e4 := ex4
  have e4 : ((foundR (nameB ⟨#[108, 119]⟩)).form.toList == [116, 109]) = true := by rw [e4]; decide
  generalize foundR (nameB ⟨#[108, 119]⟩) = R at K4 e4
  generalize decN 8720417 = I1 at K1 EQ
  generalize decN 12 = I2 at K2 e2
  generalize decN 4294967295 = I3 at K3
  obtain ⟨n1, a1, b1, c1, d1, m1⟩ := I1
  obtain ⟨n2, a2, b2, c2, d2, m2⟩ := I2
  obtain ⟨n3, a3, b3, c3, d3, m3⟩ := I3
  simp only [In.val] at K1 K2 K3 EQ e2
  have K1' := K1.out w ht
  clear K1 ht
  go_enter Tryd.func10, Tryd.ntmps10
  go_wp2_with fail
  refine K1'.mono ?_
  rintro e w1 ⟨rfl, hb1⟩
  obtain ⟨w2, hw2, hb2, p0, p1, p2, p3, p4, p5⟩ := box6b w1 ⟨n1, a1, b1, c1, d1, m1⟩
  have HB2 : Hid (Below w.heap.size w w2) := below_tr hb1 hb2
  have K2' := K2.out w2 (HT.out _ HB2.out)
  simp only at hw2 p0 p1 p2 p3 p4 p5
  clear K1' K2 hb1 hb2
  go_wp2_with fail
  refine K2'.mono ?_
  rintro e w3 ⟨rfl, hb3⟩
  obtain ⟨w4, hw4, hb4, q0, q1, q2, q3, q4, q5⟩ := box6b w3 ⟨n2, a2, b2, c2, d2, m2⟩
  have hb24 := below_tr hb3 hb4
  have HB4 : Hid (Below w.heap.size w w4) := below_tr HB2.out hb24
  have K3' := K3.out w4 (HT.out _ HB4.out)
  have p0 := keep_cell hb24 p0
  have p1 := keep_cell hb24 p1
  have p2 := keep_cell hb24 p2
  have p3 := keep_cell hb24 p3
  have p4 := keep_cell hb24 p4
  have p5 := keep_cell hb24 p5
  simp only at hw4 q0 q1 q2 q3 q4 q5
  clear K2' K3 hb3 hb4 hb24
  go_wp2_with fail
  refine K3'.mono ?_
  rintro e w5 ⟨rfl, hb5⟩
  obtain ⟨w6, hw6, hb6, r0, r1, r2, r3, r4, r5⟩ := box6b w5 ⟨n3, a3, b3, c3, d3, m3⟩
  have hb46 := below_tr hb5 hb6
  have HB6 : Hid (Below w.heap.size w w6) := below_tr HB4.out hb46
  have p0 := keep_cell hb46 p0
  have p1 := keep_cell hb46 p1
  have p2 := keep_cell hb46 p2
  have p3 := keep_cell hb46 p3
  have p4 := keep_cell hb46 p4
  have p5 := keep_cell hb46 p5
  have q0 := keep_cell hb46 q0
  have K4' := K4.out w6
  simp only at hw6
  clear K3' K4 hb5 hb6 hb46 q1 q2 q3 q4 q5 r0 r1 r2 r3 r4 r5
  go_wp2_with fail
  refine K4'.mono ?_
  rintro e w7 ⟨rfl, hb7⟩
  have HBE : Hid (Below w.heap.size w w7) := below_tr HB6.out hb7
  clear K4' hb7
  go_wp2
  go_ret
  exact ⟨rfl, HBE.out⟩
end Go.Proofs.YtidehnfgiiobcaaDoor
