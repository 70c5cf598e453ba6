/- What is proved here: the document's guess: an instruction of a name with the fields of a word. -/
import Derived.Test.YtglkkeelocdanaaGreatDoorDe
namespace Go.Proofs.YtglkkeelocdanaaGreatDoor
open Go.RowKit
set_option linter.unusedVariables false
set_option linter.unusedSimpArgs false
set_option maxRecDepth 100000
/-- The word's Imm. -/
def immD (wd x : Nat) : Nat := if wd = 16 then x % 65536 else if wd = 20 then x / 64 % 1048576 else if wd = 26 then x % 67108864 else 0
def guessD (n : ByteArray) (g : Bool × Bool × Bool × Bool) (wd x : Nat) : In := ⟨n, if g.1 then ((x / 2097152 % 32 : Nat) : Int) else 0, if g.2.1 then ((x / 65536 % 32 : Nat) : Int) else 0, if g.2.2.1 then ((x / 2048 % 32 : Nat) : Int) else 0, if g.2.2.2 then ((x / 64 % 32 : Nat) : Int) else 0, immD wd x⟩
/-- The forms' registers and widths, as they come. -/
def Comb (g : Bool × Bool × Bool × Bool) (wd : Nat) : Prop := (g = (true, true, true, false) ∧ wd = 0) ∨ (g = (false, true, true, true) ∧ wd = 0) ∨ (g = (true, false, true, false) ∧ wd = 0) ∨ (g = (false, true, true, false) ∧ wd = 0) ∨ (g = (false, false, true, false) ∧ wd = 0) ∨ (g = (true, false, false, false) ∧ wd = 0) ∨ (g = (true, true, false, false) ∧ wd = 0) ∨ (g = (false, false, false, false) ∧ wd = 20) ∨ (g = (true, false, false, false) ∧ wd = 16) ∨ (g = (true, true, false, false) ∧ wd = 16) ∨ (g = (false, false, false, false) ∧ wd = 26) ∨ (g = (false, true, false, false) ∧ wd = 16) ∨ (g = (true, true, true, true) ∧ wd = 0)
theorem mask_u32 (a k : Nat) (ha : a < 4294967296) (hk : k ≤ 32) : bits BinOp.and IntKind.u32 (a : Int) ((2 : Int) ^ k - 1) = ((a % 2 ^ k : Nat) : Int) := by
  have := bits_mask .u32 32 (by decide) (fun n h0 h1 => by rw [IntKind.wrap_u32]; omega) k hk (a : Int) (by omega) (by omega)
  simpa using this
theorem mask_div (a d k : Nat) (ha : a < 4294967296) (hk : k ≤ 32) : bits BinOp.and IntKind.u32 ((a : Int) / (d : Int)) ((2 : Int) ^ k - 1) = ((a / d % 2 ^ k : Nat) : Int) := by
  have h : a / d ≤ a := Nat.div_le_self _ _
  have := mask_u32 (a / d) k (by omega) hk
  simpa using this
theorem fld55 (a b c : Int) (f : ByteArray) (w : World) : (Instr.field 72 (.agg #[.int .u32 a, .int .u32 b, .int .u32 c, .string f]) 3).run Tryz.prog w = .ok (.string f) w := by kernel_rfl
theorem fld55o (a b c : Int) (f : ByteArray) (w : World) : (Instr.field 72 (.agg #[.int .u32 a, .int .u32 b, .int .u32 c, .string f]) 0).run Tryz.prog w = .ok (.int .u32 a) w := by kernel_rfl
def F6x (w : World) (n : Nat) : Prop := Free w ⟨n, 0, none⟩ ∧ Free w ⟨n, 1, none⟩ ∧ Free w ⟨n, 2, none⟩ ∧ Free w ⟨n, 3, none⟩ ∧ Free w ⟨n, 4, none⟩ ∧ Free w ⟨n, 5, none⟩
theorem F6x.keep {w w' : World} {n : Nat} (h : F6x w n) (hb : Below w.heap.size w w') : F6x w' n := ⟨h.1.keep hb, h.2.1.keep hb, h.2.2.1.keep hb, h.2.2.2.1.keep hb, h.2.2.2.2.1.keep hb, h.2.2.2.2.2.keep hb⟩
theorem F6x.set {w : World} {n : Nat} (h : F6x w n) (p : Addr) (v : Value) : F6x (w.setCell p v) n := ⟨h.1.set _ _, h.2.1.set _ _, h.2.2.1.set _ _, h.2.2.2.1.set _ _, h.2.2.2.2.1.set _ _, h.2.2.2.2.2.set _ _⟩
theorem new6n (w : World) (n : ByteArray) : ∃ W, w.alloc (.cells #[.string n, .int .i64 0, .int .i64 0, .int .i64 0, .int .i64 0, .int .u32 0] 24) = W ∧ Below w.heap.size w W ∧ W.cell? ⟨w.heap.size, 0, none⟩ = some (.string n) ∧ W.cell? ⟨w.heap.size, 1, none⟩ = some (.int .i64 0) ∧ W.cell? ⟨w.heap.size, 2, none⟩ = some (.int .i64 0) ∧ W.cell? ⟨w.heap.size, 3, none⟩ = some (.int .i64 0) ∧ W.cell? ⟨w.heap.size, 4, none⟩ = some (.int .i64 0) ∧ W.cell? ⟨w.heap.size, 5, none⟩ = some (.int .u32 0) ∧ F6x W w.heap.size := by
  refine ⟨_, rfl, (Below.refl _ _).alloc (Nat.le_refl _) _, ?_, ?_, ?_, ?_, ?_, ?_, ⟨⟨.string n, ?_⟩, ?_⟩, ⟨⟨.int .i64 0, ?_⟩, ?_⟩, ⟨⟨.int .i64 0, ?_⟩, ?_⟩, ⟨⟨.int .i64 0, ?_⟩, ?_⟩, ⟨⟨.int .i64 0, ?_⟩, ?_⟩, ⟨⟨.int .u32 0, ?_⟩, ?_⟩⟩
  all_goals first | exact cell_newA w _ _ _ _ _ rfl rfl | (rw [World.frozen?_alloc_at _ _ _ _ rfl])
theorem new6v (w : World) (a b c d e f : Value) : ∃ W, w.alloc (.cells #[a, b, c, d, e, f] 24) = W ∧ Below w.heap.size w W ∧ W.cell? ⟨w.heap.size, 0, none⟩ = some a ∧ W.cell? ⟨w.heap.size, 1, none⟩ = some b ∧ W.cell? ⟨w.heap.size, 2, none⟩ = some c ∧ W.cell? ⟨w.heap.size, 3, none⟩ = some d ∧ W.cell? ⟨w.heap.size, 4, none⟩ = some e ∧ W.cell? ⟨w.heap.size, 5, none⟩ = some f ∧ F6x W w.heap.size := by
  refine ⟨_, rfl, (Below.refl _ _).alloc (Nat.le_refl _) _, ?_, ?_, ?_, ?_, ?_, ?_, ⟨⟨a, ?_⟩, ?_⟩, ⟨⟨b, ?_⟩, ?_⟩, ⟨⟨c, ?_⟩, ?_⟩, ⟨⟨d, ?_⟩, ?_⟩, ⟨⟨e, ?_⟩, ?_⟩, ⟨⟨f, ?_⟩, ?_⟩⟩
  all_goals first | exact cell_newA w _ _ _ _ _ rfl rfl | (rw [World.frozen?_alloc_at _ _ _ _ rfl])
theorem new6x (w : World) : ∃ W, w.alloc (.cells #[.string ⟨#[]⟩, .int .i64 0, .int .i64 0, .int .i64 0, .int .i64 0, .int .u32 0] 24) = W ∧ Below w.heap.size w W ∧ F6x W w.heap.size := by
  obtain ⟨W, h1, h2, _, _, _, _, _, _, h3⟩ := new6n w ⟨#[]⟩
  exact ⟨W, h1, h2, h3⟩
set_option maxHeartbeats 4000000 in
theorem guess23 (n : ByteArray) (x : Nat) (hx : x < 4294967296) (r : Dr) (hr : selA n = r) (hf : r.form.size < 9223372036854775807) (g : Bool × Bool × Bool × Bool) (hg : regsD r.form = g) (wd : Nat) (hw : wideN r.form = wd) (hc : Comb g wd) (w : World) :
    Calls Tryz.prog 73 #[.string n, .int .u32 (x : Int)] w fun e w' => e = .returned (guessD n g wd x).val ∧ Below w.heap.size w w' := by
  obtain ⟨W, hW, hb, hF⟩ : ∃ W, w.alloc (.cells #[.string ⟨#[]⟩, .int .i64 0, .int .i64 0, .int .i64 0, .int .i64 0, .int .u32 0] 24) = W ∧ Below w.heap.size w W ∧ F6x W w.heap.size := new6x w
  have K22 := special22 n W
  rw [hr] at K22
  have K32 : Hid (∀ w', Calls Tryz.prog 75 #[.string r.form] w' fun e w'' => e = .returned (regV g) ∧ Below w'.heap.size w' w'') := fun w' => by rw [← hg]; exact registers32 _ hf w'
  have K33 : Hid (∀ w', Calls Tryz.prog 77 #[.string r.form] w' fun e w'' => e = .returned (.int .u32 (wd : Int)) ∧ Below w'.heap.size w' w'') := fun w' => (by rw [← hw]; exact (wide33 r.form w').mono (fun e w'' h => ⟨h.1, by rw [h.2]; exact Below.refl _ _⟩))
  have HB : Hid (Below w.heap.size w W) := hb
  have HF : Hid (F6x W w.heap.size) := hF
  have e21 : bits BinOp.and IntKind.u32 ((x : Int) / 2097152) 31 = ((x / 2097152 % 32 : Nat) : Int) := and31 x 2097152 hx
  have e16 : bits BinOp.and IntKind.u32 ((x : Int) / 65536) 31 = ((x / 65536 % 32 : Nat) : Int) := and31 x 65536 hx
  have e11 : bits BinOp.and IntKind.u32 ((x : Int) / 2048) 31 = ((x / 2048 % 32 : Nat) : Int) := and31 x 2048 hx
  have e6 : bits BinOp.and IntKind.u32 ((x : Int) / 64) 31 = ((x / 64 % 32 : Nat) : Int) := and31 x 64 hx
  have m16 : bits BinOp.and IntKind.u32 (x : Int) 65535 = ((x % 65536 : Nat) : Int) := mask_u32 x 16 hx (by decide)
  have m26 : bits BinOp.and IntKind.u32 (x : Int) 67108863 = ((x % 67108864 : Nat) : Int) := mask_u32 x 26 hx (by decide)
  have m20 : bits BinOp.and IntKind.u32 ((x : Int) / 64) 1048575 = ((x / 64 % 1048576 : Nat) : Int) := mask_div x 64 20 hx (by decide)
  have HV : Hid ((guessD n g wd x).val = .agg #[.string n, .int .i64 (if g.1 then ((x / 2097152 % 32 : Nat) : Int) else 0), .int .i64 (if g.2.1 then ((x / 65536 % 32 : Nat) : Int) else 0), .int .i64 (if g.2.2.1 then ((x / 2048 % 32 : Nat) : Int) else 0), .int .i64 (if g.2.2.2 then ((x / 64 % 32 : Nat) : Int) else 0), .int .u32 (immD wd x : Int)]) := rfl
  obtain ⟨V, hV⟩ : ∃ V, V = (guessD n g wd x).val := ⟨_, rfl⟩
  rw [← hV] at HV ⊢
  have l : ∀ y : Nat, y % 32 < 32 := fun y => Nat.mod_lt _ (by decide)
  have i21 := l (x / 2097152)
  have i16 := l (x / 65536)
  have i11 := l (x / 2048)
  have i6 := l (x / 64)
  obtain ⟨A21, h21⟩ : ∃ z, z = x / 2097152 % 32 := ⟨_, rfl⟩
  obtain ⟨A16, h16⟩ : ∃ z, z = x / 65536 % 32 := ⟨_, rfl⟩
  obtain ⟨A11, h11⟩ : ∃ z, z = x / 2048 % 32 := ⟨_, rfl⟩
  obtain ⟨A6, h6⟩ : ∃ z, z = x / 64 % 32 := ⟨_, rfl⟩
  rw [← h21] at e21 i21 HV
  rw [← h16] at e16 i16 HV
  rw [← h11] at e11 i11 HV
  rw [← h6] at e6 i6 HV
  have w21 : IntKind.i64.wrap (A21 : Int) = (A21 : Int) := by rw [IntKind.wrap_i64]; omega
  have w16 : IntKind.i64.wrap (A16 : Int) = (A16 : Int) := by rw [IntKind.wrap_i64]; omega
  have w11 : IntKind.i64.wrap (A11 : Int) = (A11 : Int) := by rw [IntKind.wrap_i64]; omega
  have w6 : IntKind.i64.wrap (A6 : Int) = (A6 : Int) := by rw [IntKind.wrap_i64]; omega
  have HI : Hid (immD wd x = if wd = 16 then x % 65536 else if wd = 20 then x / 64 % 1048576 else if wd = 26 then x % 67108864 else 0) := rfl
  generalize immD wd x = IM at HI HV
  obtain ⟨M16, h16'⟩ : ∃ z, z = x % 65536 := ⟨_, rfl⟩
  obtain ⟨M26, h26'⟩ : ∃ z, z = x % 67108864 := ⟨_, rfl⟩
  obtain ⟨M20, h20'⟩ : ∃ z, z = x / 64 % 1048576 := ⟨_, rfl⟩
  rw [← h16'] at m16 HI
  rw [← h26'] at m26 HI
  rw [← h20'] at m20 HI
  clear h21 h16 h11 h6 h16' h26' h20' l i21 i16 i11 i6 hV hr hf hg hw hb hF hx
  obtain ⟨op, sub, dsa, form⟩ := r
  obtain ⟨b1, b2, b3, b4⟩ := g
  simp only [Dr.val, regV] at K22 K32 K33 HV
  have hfl := fld55
  go_enter Tryz.func73, Tryz.ntmps73
  go_wp2_with fail
  refine K22.mono ?_
  rintro e w1 ⟨rfl, hb1⟩
  have KR := K32.out w1
  clear K22 K32
  go_wp2_with fail
  refine KR.mono ?_
  rintro e w2 ⟨rfl, hb2⟩
  obtain ⟨w3, hw3, hb3, hz3, y0, y1, y2, y3, _⟩ := box4 w2 (.bool b1) (.bool b2) (.bool b3) (.bool b4) 112
  have yy0 := fun o => cell_old y0 o
  have yy1 := fun o => cell_old y1 o
  have yy2 := fun o => cell_old y2 o
  have yy3 := fun o => cell_old y3 o
  have hbe := below_tr hb1 (below_tr hb2 hb3)
  have HB3 : Hid (Below W.heap.size W w3) := hbe
  have HLE : Hid (w.heap.size ≤ w3.heap.size) := by
    show _ ≤ _
    have h1 := World.block_lt_of_cell? W ⟨w.heap.size, 0, none⟩ HF.out.1.cell
    have h2 := (below_tr hb1 (below_tr hb2 hb3)).size
    simp only at h1
    omega
  have HNE : Hid (w.heap.size ≠ w3.heap.size) := by
    show _ ≠ _
    have h1 := World.block_lt_of_cell? W ⟨w.heap.size, 0, none⟩ HF.out.1.cell
    have h2 := (below_tr hb1 (below_tr hb2 hb3)).size
    simp only at h1
    omega
  clear hb1 hb2 hb3 hbe hz3 KR
  go_wp2_with fail
  · obtain rfl : b1 = true := by assumption
    obtain rfl : b2 = true := by assumption
    obtain rfl : b3 = true := by assumption
    obtain rfl : b4 = true := by assumption
    obtain ⟨w5, hw5, hb5, c0, c1, c2, c3, c4, c5, F5⟩ := new6v w3 (.string n) (.int .i64 (A21 : Int)) (.int .i64 (A16 : Int)) (.int .i64 (A11 : Int)) (.int .i64 (A6 : Int)) (.int .u32 0)
    have FR5 : F6x w5 w.heap.size := (HF.out.keep HB3.out).keep hb5
    have HW5 : Hid (Below w.heap.size w w5) := below_tr HB.out (below_tr HB3.out hb5)
    rw [hw5]
    obtain rfl : wd = 0 := by unfold Comb at hc; simpa using hc
    have HVV : Hid (V = .agg #[.string n, .int .i64 (A21 : Int), .int .i64 (A16 : Int), .int .i64 (A11 : Int), .int .i64 (A6 : Int), .int .u32 0]) := by
      show _ = _
      rw [HV.out, HI.out]; rfl
    have KW := K33.out w5
    clear hb5 hw3 yy0 yy1 yy2 yy3 y0 y1 y2 y3
    refine KW.mono ?_
    rintro e w6 ⟨rfl, hb6⟩
    have c0 := keep_cell hb6 c0
    have c1 := keep_cell hb6 c1
    have c2 := keep_cell hb6 c2
    have c3 := keep_cell hb6 c3
    have c4 := keep_cell hb6 c4
    have c5 := keep_cell hb6 c5
    have FR6 := FR5.keep hb6
    have F6i := F5.keep hb6
    have HW6 : Hid (Below w.heap.size w w6) := below_tr HW5.out hb6
    have z5 := F6i.2.2.2.2.2.frozen
    clear KW hb6 hw5 F5 FR5
    have t0 := FR6.1.cell
    have t1 := FR6.2.1.cell
    have t2 := FR6.2.2.1.cell
    have t3 := FR6.2.2.2.1.cell
    have t4 := FR6.2.2.2.2.1.cell
    have t5 := FR6.2.2.2.2.2.cell
    have u0 := FR6.1.frozen
    have u1 := FR6.2.1.frozen
    have u2 := FR6.2.2.1.frozen
    have u3 := FR6.2.2.2.1.frozen
    have u4 := FR6.2.2.2.2.1.frozen
    have u5 := FR6.2.2.2.2.2.frozen
    have hres := res6 w6 w.heap.size (.string n) (.int .i64 (A21 : Int)) (.int .i64 (A16 : Int)) (.int .i64 (A11 : Int)) (.int .i64 (A6 : Int)) (.int .u32 0) FR6
    simp only at hres
    have HBE := below6 (n := w.heap.size) HW6.out (Nat.le_refl _) (.string n) (.int .i64 (A21 : Int)) (.int .i64 (A16 : Int)) (.int .i64 (A11 : Int)) (.int .i64 (A6 : Int)) (.int .u32 0)
    obtain ⟨W9, hW9⟩ : ∃ z, (((((w6.setCell ⟨w.heap.size, 0, none⟩ (.string n)).setCell ⟨w.heap.size, 1, none⟩ (.int .i64 (A21 : Int))).setCell ⟨w.heap.size, 2, none⟩ (.int .i64 (A16 : Int))).setCell ⟨w.heap.size, 3, none⟩ (.int .i64 (A11 : Int))).setCell ⟨w.heap.size, 4, none⟩ (.int .i64 (A6 : Int))).setCell ⟨w.heap.size, 5, none⟩ (.int .u32 0) = z := ⟨_, rfl⟩
    rw [hW9] at hres HBE
    have HBE : Hid _ := HBE
    obtain ⟨r0, r1, r2, r3, r4, r5⟩ := hres
    clear FR6 F6i
    go_wp2
    refine bodyPost_ret (v := V) ?_ rfl ⟨rfl, HBE.out⟩
    rw [HVV.out, results_cell1 rfl]; simp [go_sem, r0, r1, r2, r3, r4, r5]
  · obtain rfl : b1 = true := by assumption
    obtain rfl : b2 = true := by assumption
    obtain rfl : b3 = true := by assumption
    obtain rfl : b4 = false := by assumption
    obtain ⟨w5, hw5, hb5, c0, c1, c2, c3, c4, c5, F5⟩ := new6v w3 (.string n) (.int .i64 (A21 : Int)) (.int .i64 (A16 : Int)) (.int .i64 (A11 : Int)) (.int .i64 0) (.int .u32 0)
    have FR5 : F6x w5 w.heap.size := (HF.out.keep HB3.out).keep hb5
    have HW5 : Hid (Below w.heap.size w w5) := below_tr HB.out (below_tr HB3.out hb5)
    rw [hw5]
    obtain rfl : wd = 0 := by unfold Comb at hc; simpa using hc
    have HVV : Hid (V = .agg #[.string n, .int .i64 (A21 : Int), .int .i64 (A16 : Int), .int .i64 (A11 : Int), .int .i64 0, .int .u32 0]) := by
      show _ = _
      rw [HV.out, HI.out]; rfl
    have KW := K33.out w5
    clear hb5 hw3 yy0 yy1 yy2 yy3 y0 y1 y2 y3
    refine KW.mono ?_
    rintro e w6 ⟨rfl, hb6⟩
    have c0 := keep_cell hb6 c0
    have c1 := keep_cell hb6 c1
    have c2 := keep_cell hb6 c2
    have c3 := keep_cell hb6 c3
    have c4 := keep_cell hb6 c4
    have c5 := keep_cell hb6 c5
    have FR6 := FR5.keep hb6
    have F6i := F5.keep hb6
    have HW6 : Hid (Below w.heap.size w w6) := below_tr HW5.out hb6
    have z5 := F6i.2.2.2.2.2.frozen
    clear KW hb6 hw5 F5 FR5
    have t0 := FR6.1.cell
    have t1 := FR6.2.1.cell
    have t2 := FR6.2.2.1.cell
    have t3 := FR6.2.2.2.1.cell
    have t4 := FR6.2.2.2.2.1.cell
    have t5 := FR6.2.2.2.2.2.cell
    have u0 := FR6.1.frozen
    have u1 := FR6.2.1.frozen
    have u2 := FR6.2.2.1.frozen
    have u3 := FR6.2.2.2.1.frozen
    have u4 := FR6.2.2.2.2.1.frozen
    have u5 := FR6.2.2.2.2.2.frozen
    have hres := res6 w6 w.heap.size (.string n) (.int .i64 (A21 : Int)) (.int .i64 (A16 : Int)) (.int .i64 (A11 : Int)) (.int .i64 0) (.int .u32 0) FR6
    simp only at hres
    have HBE := below6 (n := w.heap.size) HW6.out (Nat.le_refl _) (.string n) (.int .i64 (A21 : Int)) (.int .i64 (A16 : Int)) (.int .i64 (A11 : Int)) (.int .i64 0) (.int .u32 0)
    obtain ⟨W9, hW9⟩ : ∃ z, (((((w6.setCell ⟨w.heap.size, 0, none⟩ (.string n)).setCell ⟨w.heap.size, 1, none⟩ (.int .i64 (A21 : Int))).setCell ⟨w.heap.size, 2, none⟩ (.int .i64 (A16 : Int))).setCell ⟨w.heap.size, 3, none⟩ (.int .i64 (A11 : Int))).setCell ⟨w.heap.size, 4, none⟩ (.int .i64 0)).setCell ⟨w.heap.size, 5, none⟩ (.int .u32 0) = z := ⟨_, rfl⟩
    rw [hW9] at hres HBE
    have HBE : Hid _ := HBE
    obtain ⟨r0, r1, r2, r3, r4, r5⟩ := hres
    clear FR6 F6i
    go_wp2
    refine bodyPost_ret (v := V) ?_ rfl ⟨rfl, HBE.out⟩
    rw [HVV.out, results_cell1 rfl]; simp [go_sem, r0, r1, r2, r3, r4, r5]
  · obtain rfl : b1 = true := by assumption
    obtain rfl : b2 = true := by assumption
    obtain rfl : b3 = false := by assumption
    obtain rfl : b4 = true := by assumption
    exact absurd hc (by unfold Comb; simp)
  · obtain rfl : b1 = true := by assumption
    obtain rfl : b2 = true := by assumption
    obtain rfl : b3 = false := by assumption
    obtain rfl : b4 = false := by assumption
    obtain ⟨w5, hw5, hb5, c0, c1, c2, c3, c4, c5, F5⟩ := new6v w3 (.string n) (.int .i64 (A21 : Int)) (.int .i64 (A16 : Int)) (.int .i64 0) (.int .i64 0) (.int .u32 0)
    have FR5 : F6x w5 w.heap.size := (HF.out.keep HB3.out).keep hb5
    have HW5 : Hid (Below w.heap.size w w5) := below_tr HB.out (below_tr HB3.out hb5)
    rw [hw5]
    rcases (by unfold Comb at hc; simpa using hc : wd = 0 ∨ wd = 16) with rfl | rfl
    · skip
      have HVV : Hid (V = .agg #[.string n, .int .i64 (A21 : Int), .int .i64 (A16 : Int), .int .i64 0, .int .i64 0, .int .u32 0]) := by
        show _ = _
        rw [HV.out, HI.out]; rfl
      have KW := K33.out w5
      clear hb5 hw3 yy0 yy1 yy2 yy3 y0 y1 y2 y3
      refine KW.mono ?_
      rintro e w6 ⟨rfl, hb6⟩
      have c0 := keep_cell hb6 c0
      have c1 := keep_cell hb6 c1
      have c2 := keep_cell hb6 c2
      have c3 := keep_cell hb6 c3
      have c4 := keep_cell hb6 c4
      have c5 := keep_cell hb6 c5
      have FR6 := FR5.keep hb6
      have F6i := F5.keep hb6
      have HW6 : Hid (Below w.heap.size w w6) := below_tr HW5.out hb6
      have z5 := F6i.2.2.2.2.2.frozen
      clear KW hb6 hw5 F5 FR5
      have t0 := FR6.1.cell
      have t1 := FR6.2.1.cell
      have t2 := FR6.2.2.1.cell
      have t3 := FR6.2.2.2.1.cell
      have t4 := FR6.2.2.2.2.1.cell
      have t5 := FR6.2.2.2.2.2.cell
      have u0 := FR6.1.frozen
      have u1 := FR6.2.1.frozen
      have u2 := FR6.2.2.1.frozen
      have u3 := FR6.2.2.2.1.frozen
      have u4 := FR6.2.2.2.2.1.frozen
      have u5 := FR6.2.2.2.2.2.frozen
      have hres := res6 w6 w.heap.size (.string n) (.int .i64 (A21 : Int)) (.int .i64 (A16 : Int)) (.int .i64 0) (.int .i64 0) (.int .u32 0) FR6
      simp only at hres
      have HBE := below6 (n := w.heap.size) HW6.out (Nat.le_refl _) (.string n) (.int .i64 (A21 : Int)) (.int .i64 (A16 : Int)) (.int .i64 0) (.int .i64 0) (.int .u32 0)
      obtain ⟨W9, hW9⟩ : ∃ z, (((((w6.setCell ⟨w.heap.size, 0, none⟩ (.string n)).setCell ⟨w.heap.size, 1, none⟩ (.int .i64 (A21 : Int))).setCell ⟨w.heap.size, 2, none⟩ (.int .i64 (A16 : Int))).setCell ⟨w.heap.size, 3, none⟩ (.int .i64 0)).setCell ⟨w.heap.size, 4, none⟩ (.int .i64 0)).setCell ⟨w.heap.size, 5, none⟩ (.int .u32 0) = z := ⟨_, rfl⟩
      rw [hW9] at hres HBE
      have HBE : Hid _ := HBE
      obtain ⟨r0, r1, r2, r3, r4, r5⟩ := hres
      clear FR6 F6i
      go_wp2
      refine bodyPost_ret (v := V) ?_ rfl ⟨rfl, HBE.out⟩
      rw [HVV.out, results_cell1 rfl]; simp [go_sem, r0, r1, r2, r3, r4, r5]
    · skip
      have HVV : Hid (V = .agg #[.string n, .int .i64 (A21 : Int), .int .i64 (A16 : Int), .int .i64 0, .int .i64 0, .int .u32 (M16 : Int)]) := by
        show _ = _
        rw [HV.out, HI.out]; rfl
      have KW := K33.out w5
      clear hb5 hw3 yy0 yy1 yy2 yy3 y0 y1 y2 y3
      refine KW.mono ?_
      rintro e w6 ⟨rfl, hb6⟩
      have c0 := keep_cell hb6 c0
      have c1 := keep_cell hb6 c1
      have c2 := keep_cell hb6 c2
      have c3 := keep_cell hb6 c3
      have c4 := keep_cell hb6 c4
      have c5 := keep_cell hb6 c5
      have FR6 := FR5.keep hb6
      have F6i := F5.keep hb6
      have HW6 : Hid (Below w.heap.size w w6) := below_tr HW5.out hb6
      have z5 := F6i.2.2.2.2.2.frozen
      clear KW hb6 hw5 F5 FR5
      obtain ⟨w7, hw7⟩ : ∃ z, w6.setCell ⟨w3.heap.size, 5, none⟩ (.int .u32 (M16 : Int)) = z := ⟨_, rfl⟩
      have d5 : w7.cell? ⟨w3.heap.size, 5, none⟩ = some (.int .u32 (M16 : Int)) := by rw [← hw7]; exact World.cell?_setCell_same _ _ _ F6i.2.2.2.2.2.cell
      have d0 := (by rw [← hw7, World.cell?_setCell_other _ _ _ _ (by simp)]; exact c0 : w7.cell? ⟨w3.heap.size, 0, none⟩ = some (.string n))
      have d1 := (by rw [← hw7, World.cell?_setCell_other _ _ _ _ (by simp)]; exact c1 : w7.cell? ⟨w3.heap.size, 1, none⟩ = some (.int .i64 (A21 : Int)))
      have d2 := (by rw [← hw7, World.cell?_setCell_other _ _ _ _ (by simp)]; exact c2 : w7.cell? ⟨w3.heap.size, 2, none⟩ = some (.int .i64 (A16 : Int)))
      have d3 := (by rw [← hw7, World.cell?_setCell_other _ _ _ _ (by simp)]; exact c3 : w7.cell? ⟨w3.heap.size, 3, none⟩ = some (.int .i64 0))
      have d4 := (by rw [← hw7, World.cell?_setCell_other _ _ _ _ (by simp)]; exact c4 : w7.cell? ⟨w3.heap.size, 4, none⟩ = some (.int .i64 0))
      have FR7 : F6x w7 w.heap.size := by rw [← hw7]; exact FR6.set _ _
      have HW7 : Hid (Below w.heap.size w w7) := by rw [← hw7]; exact HW6.out.setCell (HLE.out) _
      have t0 := FR7.1.cell
      have t1 := FR7.2.1.cell
      have t2 := FR7.2.2.1.cell
      have t3 := FR7.2.2.2.1.cell
      have t4 := FR7.2.2.2.2.1.cell
      have t5 := FR7.2.2.2.2.2.cell
      have u0 := FR7.1.frozen
      have u1 := FR7.2.1.frozen
      have u2 := FR7.2.2.1.frozen
      have u3 := FR7.2.2.2.1.frozen
      have u4 := FR7.2.2.2.2.1.frozen
      have u5 := FR7.2.2.2.2.2.frozen
      have hres := res6 w7 w.heap.size (.string n) (.int .i64 (A21 : Int)) (.int .i64 (A16 : Int)) (.int .i64 0) (.int .i64 0) (.int .u32 (M16 : Int)) FR7
      simp only at hres
      have HBE := below6 (n := w.heap.size) HW7.out (Nat.le_refl _) (.string n) (.int .i64 (A21 : Int)) (.int .i64 (A16 : Int)) (.int .i64 0) (.int .i64 0) (.int .u32 (M16 : Int))
      obtain ⟨W9, hW9⟩ : ∃ z, (((((w7.setCell ⟨w.heap.size, 0, none⟩ (.string n)).setCell ⟨w.heap.size, 1, none⟩ (.int .i64 (A21 : Int))).setCell ⟨w.heap.size, 2, none⟩ (.int .i64 (A16 : Int))).setCell ⟨w.heap.size, 3, none⟩ (.int .i64 0)).setCell ⟨w.heap.size, 4, none⟩ (.int .i64 0)).setCell ⟨w.heap.size, 5, none⟩ (.int .u32 (M16 : Int)) = z := ⟨_, rfl⟩
      rw [hW9] at hres HBE
      have HBE : Hid _ := HBE
      obtain ⟨r0, r1, r2, r3, r4, r5⟩ := hres
      clear FR6 F6i
      go_wp2
      refine bodyPost_ret (v := V) ?_ rfl ⟨rfl, HBE.out⟩
      rw [HVV.out, results_cell1 rfl]; simp [go_sem, r0, r1, r2, r3, r4, r5]
  · obtain rfl : b1 = true := by assumption
    obtain rfl : b2 = false := by assumption
    obtain rfl : b3 = true := by assumption
    obtain rfl : b4 = true := by assumption
    exact absurd hc (by unfold Comb; simp)
  · obtain rfl : b1 = true := by assumption
    obtain rfl : b2 = false := by assumption
    obtain rfl : b3 = true := by assumption
    obtain rfl : b4 = false := by assumption
    obtain ⟨w5, hw5, hb5, c0, c1, c2, c3, c4, c5, F5⟩ := new6v w3 (.string n) (.int .i64 (A21 : Int)) (.int .i64 0) (.int .i64 (A11 : Int)) (.int .i64 0) (.int .u32 0)
    have FR5 : F6x w5 w.heap.size := (HF.out.keep HB3.out).keep hb5
    have HW5 : Hid (Below w.heap.size w w5) := below_tr HB.out (below_tr HB3.out hb5)
    rw [hw5]
    obtain rfl : wd = 0 := by unfold Comb at hc; simpa using hc
    have HVV : Hid (V = .agg #[.string n, .int .i64 (A21 : Int), .int .i64 0, .int .i64 (A11 : Int), .int .i64 0, .int .u32 0]) := by
      show _ = _
      rw [HV.out, HI.out]; rfl
    have KW := K33.out w5
    clear hb5 hw3 yy0 yy1 yy2 yy3 y0 y1 y2 y3
    refine KW.mono ?_
    rintro e w6 ⟨rfl, hb6⟩
    have c0 := keep_cell hb6 c0
    have c1 := keep_cell hb6 c1
    have c2 := keep_cell hb6 c2
    have c3 := keep_cell hb6 c3
    have c4 := keep_cell hb6 c4
    have c5 := keep_cell hb6 c5
    have FR6 := FR5.keep hb6
    have F6i := F5.keep hb6
    have HW6 : Hid (Below w.heap.size w w6) := below_tr HW5.out hb6
    have z5 := F6i.2.2.2.2.2.frozen
    clear KW hb6 hw5 F5 FR5
    have t0 := FR6.1.cell
    have t1 := FR6.2.1.cell
    have t2 := FR6.2.2.1.cell
    have t3 := FR6.2.2.2.1.cell
    have t4 := FR6.2.2.2.2.1.cell
    have t5 := FR6.2.2.2.2.2.cell
    have u0 := FR6.1.frozen
    have u1 := FR6.2.1.frozen
    have u2 := FR6.2.2.1.frozen
    have u3 := FR6.2.2.2.1.frozen
    have u4 := FR6.2.2.2.2.1.frozen
    have u5 := FR6.2.2.2.2.2.frozen
    have hres := res6 w6 w.heap.size (.string n) (.int .i64 (A21 : Int)) (.int .i64 0) (.int .i64 (A11 : Int)) (.int .i64 0) (.int .u32 0) FR6
    simp only at hres
    have HBE := below6 (n := w.heap.size) HW6.out (Nat.le_refl _) (.string n) (.int .i64 (A21 : Int)) (.int .i64 0) (.int .i64 (A11 : Int)) (.int .i64 0) (.int .u32 0)
    obtain ⟨W9, hW9⟩ : ∃ z, (((((w6.setCell ⟨w.heap.size, 0, none⟩ (.string n)).setCell ⟨w.heap.size, 1, none⟩ (.int .i64 (A21 : Int))).setCell ⟨w.heap.size, 2, none⟩ (.int .i64 0)).setCell ⟨w.heap.size, 3, none⟩ (.int .i64 (A11 : Int))).setCell ⟨w.heap.size, 4, none⟩ (.int .i64 0)).setCell ⟨w.heap.size, 5, none⟩ (.int .u32 0) = z := ⟨_, rfl⟩
    rw [hW9] at hres HBE
    have HBE : Hid _ := HBE
    obtain ⟨r0, r1, r2, r3, r4, r5⟩ := hres
    clear FR6 F6i
    go_wp2
    refine bodyPost_ret (v := V) ?_ rfl ⟨rfl, HBE.out⟩
    rw [HVV.out, results_cell1 rfl]; simp [go_sem, r0, r1, r2, r3, r4, r5]
  · obtain rfl : b1 = true := by assumption
    obtain rfl : b2 = false := by assumption
    obtain rfl : b3 = false := by assumption
    obtain rfl : b4 = true := by assumption
    exact absurd hc (by unfold Comb; simp)
  · obtain rfl : b1 = true := by assumption
    obtain rfl : b2 = false := by assumption
    obtain rfl : b3 = false := by assumption
    obtain rfl : b4 = false := by assumption
    obtain ⟨w5, hw5, hb5, c0, c1, c2, c3, c4, c5, F5⟩ := new6v w3 (.string n) (.int .i64 (A21 : Int)) (.int .i64 0) (.int .i64 0) (.int .i64 0) (.int .u32 0)
    have FR5 : F6x w5 w.heap.size := (HF.out.keep HB3.out).keep hb5
    have HW5 : Hid (Below w.heap.size w w5) := below_tr HB.out (below_tr HB3.out hb5)
    rw [hw5]
    rcases (by unfold Comb at hc; simpa using hc : wd = 0 ∨ wd = 16) with rfl | rfl
    · skip
      have HVV : Hid (V = .agg #[.string n, .int .i64 (A21 : Int), .int .i64 0, .int .i64 0, .int .i64 0, .int .u32 0]) := by
        show _ = _
        rw [HV.out, HI.out]; rfl
      have KW := K33.out w5
      clear hb5 hw3 yy0 yy1 yy2 yy3 y0 y1 y2 y3
      refine KW.mono ?_
      rintro e w6 ⟨rfl, hb6⟩
      have c0 := keep_cell hb6 c0
      have c1 := keep_cell hb6 c1
      have c2 := keep_cell hb6 c2
      have c3 := keep_cell hb6 c3
      have c4 := keep_cell hb6 c4
      have c5 := keep_cell hb6 c5
      have FR6 := FR5.keep hb6
      have F6i := F5.keep hb6
      have HW6 : Hid (Below w.heap.size w w6) := below_tr HW5.out hb6
      have z5 := F6i.2.2.2.2.2.frozen
      clear KW hb6 hw5 F5 FR5
      have t0 := FR6.1.cell
      have t1 := FR6.2.1.cell
      have t2 := FR6.2.2.1.cell
      have t3 := FR6.2.2.2.1.cell
      have t4 := FR6.2.2.2.2.1.cell
      have t5 := FR6.2.2.2.2.2.cell
      have u0 := FR6.1.frozen
      have u1 := FR6.2.1.frozen
      have u2 := FR6.2.2.1.frozen
      have u3 := FR6.2.2.2.1.frozen
      have u4 := FR6.2.2.2.2.1.frozen
      have u5 := FR6.2.2.2.2.2.frozen
      have hres := res6 w6 w.heap.size (.string n) (.int .i64 (A21 : Int)) (.int .i64 0) (.int .i64 0) (.int .i64 0) (.int .u32 0) FR6
      simp only at hres
      have HBE := below6 (n := w.heap.size) HW6.out (Nat.le_refl _) (.string n) (.int .i64 (A21 : Int)) (.int .i64 0) (.int .i64 0) (.int .i64 0) (.int .u32 0)
      obtain ⟨W9, hW9⟩ : ∃ z, (((((w6.setCell ⟨w.heap.size, 0, none⟩ (.string n)).setCell ⟨w.heap.size, 1, none⟩ (.int .i64 (A21 : Int))).setCell ⟨w.heap.size, 2, none⟩ (.int .i64 0)).setCell ⟨w.heap.size, 3, none⟩ (.int .i64 0)).setCell ⟨w.heap.size, 4, none⟩ (.int .i64 0)).setCell ⟨w.heap.size, 5, none⟩ (.int .u32 0) = z := ⟨_, rfl⟩
      rw [hW9] at hres HBE
      have HBE : Hid _ := HBE
      obtain ⟨r0, r1, r2, r3, r4, r5⟩ := hres
      clear FR6 F6i
      go_wp2
      refine bodyPost_ret (v := V) ?_ rfl ⟨rfl, HBE.out⟩
      rw [HVV.out, results_cell1 rfl]; simp [go_sem, r0, r1, r2, r3, r4, r5]
    · skip
      have HVV : Hid (V = .agg #[.string n, .int .i64 (A21 : Int), .int .i64 0, .int .i64 0, .int .i64 0, .int .u32 (M16 : Int)]) := by
        show _ = _
        rw [HV.out, HI.out]; rfl
      have KW := K33.out w5
      clear hb5 hw3 yy0 yy1 yy2 yy3 y0 y1 y2 y3
      refine KW.mono ?_
      rintro e w6 ⟨rfl, hb6⟩
      have c0 := keep_cell hb6 c0
      have c1 := keep_cell hb6 c1
      have c2 := keep_cell hb6 c2
      have c3 := keep_cell hb6 c3
      have c4 := keep_cell hb6 c4
      have c5 := keep_cell hb6 c5
      have FR6 := FR5.keep hb6
      have F6i := F5.keep hb6
      have HW6 : Hid (Below w.heap.size w w6) := below_tr HW5.out hb6
      have z5 := F6i.2.2.2.2.2.frozen
      clear KW hb6 hw5 F5 FR5
      obtain ⟨w7, hw7⟩ : ∃ z, w6.setCell ⟨w3.heap.size, 5, none⟩ (.int .u32 (M16 : Int)) = z := ⟨_, rfl⟩
      have d5 : w7.cell? ⟨w3.heap.size, 5, none⟩ = some (.int .u32 (M16 : Int)) := by rw [← hw7]; exact World.cell?_setCell_same _ _ _ F6i.2.2.2.2.2.cell
      have d0 := (by rw [← hw7, World.cell?_setCell_other _ _ _ _ (by simp)]; exact c0 : w7.cell? ⟨w3.heap.size, 0, none⟩ = some (.string n))
      have d1 := (by rw [← hw7, World.cell?_setCell_other _ _ _ _ (by simp)]; exact c1 : w7.cell? ⟨w3.heap.size, 1, none⟩ = some (.int .i64 (A21 : Int)))
      have d2 := (by rw [← hw7, World.cell?_setCell_other _ _ _ _ (by simp)]; exact c2 : w7.cell? ⟨w3.heap.size, 2, none⟩ = some (.int .i64 0))
      have d3 := (by rw [← hw7, World.cell?_setCell_other _ _ _ _ (by simp)]; exact c3 : w7.cell? ⟨w3.heap.size, 3, none⟩ = some (.int .i64 0))
      have d4 := (by rw [← hw7, World.cell?_setCell_other _ _ _ _ (by simp)]; exact c4 : w7.cell? ⟨w3.heap.size, 4, none⟩ = some (.int .i64 0))
      have FR7 : F6x w7 w.heap.size := by rw [← hw7]; exact FR6.set _ _
      have HW7 : Hid (Below w.heap.size w w7) := by rw [← hw7]; exact HW6.out.setCell (HLE.out) _
      have t0 := FR7.1.cell
      have t1 := FR7.2.1.cell
      have t2 := FR7.2.2.1.cell
      have t3 := FR7.2.2.2.1.cell
      have t4 := FR7.2.2.2.2.1.cell
      have t5 := FR7.2.2.2.2.2.cell
      have u0 := FR7.1.frozen
      have u1 := FR7.2.1.frozen
      have u2 := FR7.2.2.1.frozen
      have u3 := FR7.2.2.2.1.frozen
      have u4 := FR7.2.2.2.2.1.frozen
      have u5 := FR7.2.2.2.2.2.frozen
      have hres := res6 w7 w.heap.size (.string n) (.int .i64 (A21 : Int)) (.int .i64 0) (.int .i64 0) (.int .i64 0) (.int .u32 (M16 : Int)) FR7
      simp only at hres
      have HBE := below6 (n := w.heap.size) HW7.out (Nat.le_refl _) (.string n) (.int .i64 (A21 : Int)) (.int .i64 0) (.int .i64 0) (.int .i64 0) (.int .u32 (M16 : Int))
      obtain ⟨W9, hW9⟩ : ∃ z, (((((w7.setCell ⟨w.heap.size, 0, none⟩ (.string n)).setCell ⟨w.heap.size, 1, none⟩ (.int .i64 (A21 : Int))).setCell ⟨w.heap.size, 2, none⟩ (.int .i64 0)).setCell ⟨w.heap.size, 3, none⟩ (.int .i64 0)).setCell ⟨w.heap.size, 4, none⟩ (.int .i64 0)).setCell ⟨w.heap.size, 5, none⟩ (.int .u32 (M16 : Int)) = z := ⟨_, rfl⟩
      rw [hW9] at hres HBE
      have HBE : Hid _ := HBE
      obtain ⟨r0, r1, r2, r3, r4, r5⟩ := hres
      clear FR6 F6i
      go_wp2
      refine bodyPost_ret (v := V) ?_ rfl ⟨rfl, HBE.out⟩
      rw [HVV.out, results_cell1 rfl]; simp [go_sem, r0, r1, r2, r3, r4, r5]
  · obtain rfl : b1 = false := by assumption
    obtain rfl : b2 = true := by assumption
    obtain rfl : b3 = true := by assumption
    obtain rfl : b4 = true := by assumption
    obtain ⟨w5, hw5, hb5, c0, c1, c2, c3, c4, c5, F5⟩ := new6v w3 (.string n) (.int .i64 0) (.int .i64 (A16 : Int)) (.int .i64 (A11 : Int)) (.int .i64 (A6 : Int)) (.int .u32 0)
    have FR5 : F6x w5 w.heap.size := (HF.out.keep HB3.out).keep hb5
    have HW5 : Hid (Below w.heap.size w w5) := below_tr HB.out (below_tr HB3.out hb5)
    rw [hw5]
    obtain rfl : wd = 0 := by unfold Comb at hc; simpa using hc
    have HVV : Hid (V = .agg #[.string n, .int .i64 0, .int .i64 (A16 : Int), .int .i64 (A11 : Int), .int .i64 (A6 : Int), .int .u32 0]) := by
      show _ = _
      rw [HV.out, HI.out]; rfl
    have KW := K33.out w5
    clear hb5 hw3 yy0 yy1 yy2 yy3 y0 y1 y2 y3
    refine KW.mono ?_
    rintro e w6 ⟨rfl, hb6⟩
    have c0 := keep_cell hb6 c0
    have c1 := keep_cell hb6 c1
    have c2 := keep_cell hb6 c2
    have c3 := keep_cell hb6 c3
    have c4 := keep_cell hb6 c4
    have c5 := keep_cell hb6 c5
    have FR6 := FR5.keep hb6
    have F6i := F5.keep hb6
    have HW6 : Hid (Below w.heap.size w w6) := below_tr HW5.out hb6
    have z5 := F6i.2.2.2.2.2.frozen
    clear KW hb6 hw5 F5 FR5
    have t0 := FR6.1.cell
    have t1 := FR6.2.1.cell
    have t2 := FR6.2.2.1.cell
    have t3 := FR6.2.2.2.1.cell
    have t4 := FR6.2.2.2.2.1.cell
    have t5 := FR6.2.2.2.2.2.cell
    have u0 := FR6.1.frozen
    have u1 := FR6.2.1.frozen
    have u2 := FR6.2.2.1.frozen
    have u3 := FR6.2.2.2.1.frozen
    have u4 := FR6.2.2.2.2.1.frozen
    have u5 := FR6.2.2.2.2.2.frozen
    have hres := res6 w6 w.heap.size (.string n) (.int .i64 0) (.int .i64 (A16 : Int)) (.int .i64 (A11 : Int)) (.int .i64 (A6 : Int)) (.int .u32 0) FR6
    simp only at hres
    have HBE := below6 (n := w.heap.size) HW6.out (Nat.le_refl _) (.string n) (.int .i64 0) (.int .i64 (A16 : Int)) (.int .i64 (A11 : Int)) (.int .i64 (A6 : Int)) (.int .u32 0)
    obtain ⟨W9, hW9⟩ : ∃ z, (((((w6.setCell ⟨w.heap.size, 0, none⟩ (.string n)).setCell ⟨w.heap.size, 1, none⟩ (.int .i64 0)).setCell ⟨w.heap.size, 2, none⟩ (.int .i64 (A16 : Int))).setCell ⟨w.heap.size, 3, none⟩ (.int .i64 (A11 : Int))).setCell ⟨w.heap.size, 4, none⟩ (.int .i64 (A6 : Int))).setCell ⟨w.heap.size, 5, none⟩ (.int .u32 0) = z := ⟨_, rfl⟩
    rw [hW9] at hres HBE
    have HBE : Hid _ := HBE
    obtain ⟨r0, r1, r2, r3, r4, r5⟩ := hres
    clear FR6 F6i
    go_wp2
    refine bodyPost_ret (v := V) ?_ rfl ⟨rfl, HBE.out⟩
    rw [HVV.out, results_cell1 rfl]; simp [go_sem, r0, r1, r2, r3, r4, r5]
  · obtain rfl : b1 = false := by assumption
    obtain rfl : b2 = true := by assumption
    obtain rfl : b3 = true := by assumption
    obtain rfl : b4 = false := by assumption
    obtain ⟨w5, hw5, hb5, c0, c1, c2, c3, c4, c5, F5⟩ := new6v w3 (.string n) (.int .i64 0) (.int .i64 (A16 : Int)) (.int .i64 (A11 : Int)) (.int .i64 0) (.int .u32 0)
    have FR5 : F6x w5 w.heap.size := (HF.out.keep HB3.out).keep hb5
    have HW5 : Hid (Below w.heap.size w w5) := below_tr HB.out (below_tr HB3.out hb5)
    rw [hw5]
    obtain rfl : wd = 0 := by unfold Comb at hc; simpa using hc
    have HVV : Hid (V = .agg #[.string n, .int .i64 0, .int .i64 (A16 : Int), .int .i64 (A11 : Int), .int .i64 0, .int .u32 0]) := by
      show _ = _
      rw [HV.out, HI.out]; rfl
    have KW := K33.out w5
    clear hb5 hw3 yy0 yy1 yy2 yy3 y0 y1 y2 y3
    refine KW.mono ?_
    rintro e w6 ⟨rfl, hb6⟩
    have c0 := keep_cell hb6 c0
    have c1 := keep_cell hb6 c1
    have c2 := keep_cell hb6 c2
    have c3 := keep_cell hb6 c3
    have c4 := keep_cell hb6 c4
    have c5 := keep_cell hb6 c5
    have FR6 := FR5.keep hb6
    have F6i := F5.keep hb6
    have HW6 : Hid (Below w.heap.size w w6) := below_tr HW5.out hb6
    have z5 := F6i.2.2.2.2.2.frozen
    clear KW hb6 hw5 F5 FR5
    have t0 := FR6.1.cell
    have t1 := FR6.2.1.cell
    have t2 := FR6.2.2.1.cell
    have t3 := FR6.2.2.2.1.cell
    have t4 := FR6.2.2.2.2.1.cell
    have t5 := FR6.2.2.2.2.2.cell
    have u0 := FR6.1.frozen
    have u1 := FR6.2.1.frozen
    have u2 := FR6.2.2.1.frozen
    have u3 := FR6.2.2.2.1.frozen
    have u4 := FR6.2.2.2.2.1.frozen
    have u5 := FR6.2.2.2.2.2.frozen
    have hres := res6 w6 w.heap.size (.string n) (.int .i64 0) (.int .i64 (A16 : Int)) (.int .i64 (A11 : Int)) (.int .i64 0) (.int .u32 0) FR6
    simp only at hres
    have HBE := below6 (n := w.heap.size) HW6.out (Nat.le_refl _) (.string n) (.int .i64 0) (.int .i64 (A16 : Int)) (.int .i64 (A11 : Int)) (.int .i64 0) (.int .u32 0)
    obtain ⟨W9, hW9⟩ : ∃ z, (((((w6.setCell ⟨w.heap.size, 0, none⟩ (.string n)).setCell ⟨w.heap.size, 1, none⟩ (.int .i64 0)).setCell ⟨w.heap.size, 2, none⟩ (.int .i64 (A16 : Int))).setCell ⟨w.heap.size, 3, none⟩ (.int .i64 (A11 : Int))).setCell ⟨w.heap.size, 4, none⟩ (.int .i64 0)).setCell ⟨w.heap.size, 5, none⟩ (.int .u32 0) = z := ⟨_, rfl⟩
    rw [hW9] at hres HBE
    have HBE : Hid _ := HBE
    obtain ⟨r0, r1, r2, r3, r4, r5⟩ := hres
    clear FR6 F6i
    go_wp2
    refine bodyPost_ret (v := V) ?_ rfl ⟨rfl, HBE.out⟩
    rw [HVV.out, results_cell1 rfl]; simp [go_sem, r0, r1, r2, r3, r4, r5]
  · obtain rfl : b1 = false := by assumption
    obtain rfl : b2 = true := by assumption
    obtain rfl : b3 = false := by assumption
    obtain rfl : b4 = true := by assumption
    exact absurd hc (by unfold Comb; simp)
  · obtain rfl : b1 = false := by assumption
    obtain rfl : b2 = true := by assumption
    obtain rfl : b3 = false := by assumption
    obtain rfl : b4 = false := by assumption
    obtain ⟨w5, hw5, hb5, c0, c1, c2, c3, c4, c5, F5⟩ := new6v w3 (.string n) (.int .i64 0) (.int .i64 (A16 : Int)) (.int .i64 0) (.int .i64 0) (.int .u32 0)
    have FR5 : F6x w5 w.heap.size := (HF.out.keep HB3.out).keep hb5
    have HW5 : Hid (Below w.heap.size w w5) := below_tr HB.out (below_tr HB3.out hb5)
    rw [hw5]
    obtain rfl : wd = 16 := by unfold Comb at hc; simpa using hc
    have HVV : Hid (V = .agg #[.string n, .int .i64 0, .int .i64 (A16 : Int), .int .i64 0, .int .i64 0, .int .u32 (M16 : Int)]) := by
      show _ = _
      rw [HV.out, HI.out]; rfl
    have KW := K33.out w5
    clear hb5 hw3 yy0 yy1 yy2 yy3 y0 y1 y2 y3
    refine KW.mono ?_
    rintro e w6 ⟨rfl, hb6⟩
    have c0 := keep_cell hb6 c0
    have c1 := keep_cell hb6 c1
    have c2 := keep_cell hb6 c2
    have c3 := keep_cell hb6 c3
    have c4 := keep_cell hb6 c4
    have c5 := keep_cell hb6 c5
    have FR6 := FR5.keep hb6
    have F6i := F5.keep hb6
    have HW6 : Hid (Below w.heap.size w w6) := below_tr HW5.out hb6
    have z5 := F6i.2.2.2.2.2.frozen
    clear KW hb6 hw5 F5 FR5
    obtain ⟨w7, hw7⟩ : ∃ z, w6.setCell ⟨w3.heap.size, 5, none⟩ (.int .u32 (M16 : Int)) = z := ⟨_, rfl⟩
    have d5 : w7.cell? ⟨w3.heap.size, 5, none⟩ = some (.int .u32 (M16 : Int)) := by rw [← hw7]; exact World.cell?_setCell_same _ _ _ F6i.2.2.2.2.2.cell
    have d0 := (by rw [← hw7, World.cell?_setCell_other _ _ _ _ (by simp)]; exact c0 : w7.cell? ⟨w3.heap.size, 0, none⟩ = some (.string n))
    have d1 := (by rw [← hw7, World.cell?_setCell_other _ _ _ _ (by simp)]; exact c1 : w7.cell? ⟨w3.heap.size, 1, none⟩ = some (.int .i64 0))
    have d2 := (by rw [← hw7, World.cell?_setCell_other _ _ _ _ (by simp)]; exact c2 : w7.cell? ⟨w3.heap.size, 2, none⟩ = some (.int .i64 (A16 : Int)))
    have d3 := (by rw [← hw7, World.cell?_setCell_other _ _ _ _ (by simp)]; exact c3 : w7.cell? ⟨w3.heap.size, 3, none⟩ = some (.int .i64 0))
    have d4 := (by rw [← hw7, World.cell?_setCell_other _ _ _ _ (by simp)]; exact c4 : w7.cell? ⟨w3.heap.size, 4, none⟩ = some (.int .i64 0))
    have FR7 : F6x w7 w.heap.size := by rw [← hw7]; exact FR6.set _ _
    have HW7 : Hid (Below w.heap.size w w7) := by rw [← hw7]; exact HW6.out.setCell (HLE.out) _
    have t0 := FR7.1.cell
    have t1 := FR7.2.1.cell
    have t2 := FR7.2.2.1.cell
    have t3 := FR7.2.2.2.1.cell
    have t4 := FR7.2.2.2.2.1.cell
    have t5 := FR7.2.2.2.2.2.cell
    have u0 := FR7.1.frozen
    have u1 := FR7.2.1.frozen
    have u2 := FR7.2.2.1.frozen
    have u3 := FR7.2.2.2.1.frozen
    have u4 := FR7.2.2.2.2.1.frozen
    have u5 := FR7.2.2.2.2.2.frozen
    have hres := res6 w7 w.heap.size (.string n) (.int .i64 0) (.int .i64 (A16 : Int)) (.int .i64 0) (.int .i64 0) (.int .u32 (M16 : Int)) FR7
    simp only at hres
    have HBE := below6 (n := w.heap.size) HW7.out (Nat.le_refl _) (.string n) (.int .i64 0) (.int .i64 (A16 : Int)) (.int .i64 0) (.int .i64 0) (.int .u32 (M16 : Int))
    obtain ⟨W9, hW9⟩ : ∃ z, (((((w7.setCell ⟨w.heap.size, 0, none⟩ (.string n)).setCell ⟨w.heap.size, 1, none⟩ (.int .i64 0)).setCell ⟨w.heap.size, 2, none⟩ (.int .i64 (A16 : Int))).setCell ⟨w.heap.size, 3, none⟩ (.int .i64 0)).setCell ⟨w.heap.size, 4, none⟩ (.int .i64 0)).setCell ⟨w.heap.size, 5, none⟩ (.int .u32 (M16 : Int)) = z := ⟨_, rfl⟩
    rw [hW9] at hres HBE
    have HBE : Hid _ := HBE
    obtain ⟨r0, r1, r2, r3, r4, r5⟩ := hres
    clear FR6 F6i
    go_wp2
    refine bodyPost_ret (v := V) ?_ rfl ⟨rfl, HBE.out⟩
    rw [HVV.out, results_cell1 rfl]; simp [go_sem, r0, r1, r2, r3, r4, r5]
  · obtain rfl : b1 = false := by assumption
    obtain rfl : b2 = false := by assumption
    obtain rfl : b3 = true := by assumption
    obtain rfl : b4 = true := by assumption
    exact absurd hc (by unfold Comb; simp)
  · obtain rfl : b1 = false := by assumption
    obtain rfl : b2 = false := by assumption
    obtain rfl : b3 = true := by assumption
    obtain rfl : b4 = false := by assumption
    obtain ⟨w5, hw5, hb5, c0, c1, c2, c3, c4, c5, F5⟩ := new6v w3 (.string n) (.int .i64 0) (.int .i64 0) (.int .i64 (A11 : Int)) (.int .i64 0) (.int .u32 0)
    have FR5 : F6x w5 w.heap.size := (HF.out.keep HB3.out).keep hb5
    have HW5 : Hid (Below w.heap.size w w5) := below_tr HB.out (below_tr HB3.out hb5)
    rw [hw5]
    obtain rfl : wd = 0 := by unfold Comb at hc; simpa using hc
    have HVV : Hid (V = .agg #[.string n, .int .i64 0, .int .i64 0, .int .i64 (A11 : Int), .int .i64 0, .int .u32 0]) := by
      show _ = _
      rw [HV.out, HI.out]; rfl
    have KW := K33.out w5
    clear hb5 hw3 yy0 yy1 yy2 yy3 y0 y1 y2 y3
    refine KW.mono ?_
    rintro e w6 ⟨rfl, hb6⟩
    have c0 := keep_cell hb6 c0
    have c1 := keep_cell hb6 c1
    have c2 := keep_cell hb6 c2
    have c3 := keep_cell hb6 c3
    have c4 := keep_cell hb6 c4
    have c5 := keep_cell hb6 c5
    have FR6 := FR5.keep hb6
    have F6i := F5.keep hb6
    have HW6 : Hid (Below w.heap.size w w6) := below_tr HW5.out hb6
    have z5 := F6i.2.2.2.2.2.frozen
    clear KW hb6 hw5 F5 FR5
    have t0 := FR6.1.cell
    have t1 := FR6.2.1.cell
    have t2 := FR6.2.2.1.cell
    have t3 := FR6.2.2.2.1.cell
    have t4 := FR6.2.2.2.2.1.cell
    have t5 := FR6.2.2.2.2.2.cell
    have u0 := FR6.1.frozen
    have u1 := FR6.2.1.frozen
    have u2 := FR6.2.2.1.frozen
    have u3 := FR6.2.2.2.1.frozen
    have u4 := FR6.2.2.2.2.1.frozen
    have u5 := FR6.2.2.2.2.2.frozen
    have hres := res6 w6 w.heap.size (.string n) (.int .i64 0) (.int .i64 0) (.int .i64 (A11 : Int)) (.int .i64 0) (.int .u32 0) FR6
    simp only at hres
    have HBE := below6 (n := w.heap.size) HW6.out (Nat.le_refl _) (.string n) (.int .i64 0) (.int .i64 0) (.int .i64 (A11 : Int)) (.int .i64 0) (.int .u32 0)
    obtain ⟨W9, hW9⟩ : ∃ z, (((((w6.setCell ⟨w.heap.size, 0, none⟩ (.string n)).setCell ⟨w.heap.size, 1, none⟩ (.int .i64 0)).setCell ⟨w.heap.size, 2, none⟩ (.int .i64 0)).setCell ⟨w.heap.size, 3, none⟩ (.int .i64 (A11 : Int))).setCell ⟨w.heap.size, 4, none⟩ (.int .i64 0)).setCell ⟨w.heap.size, 5, none⟩ (.int .u32 0) = z := ⟨_, rfl⟩
    rw [hW9] at hres HBE
    have HBE : Hid _ := HBE
    obtain ⟨r0, r1, r2, r3, r4, r5⟩ := hres
    clear FR6 F6i
    go_wp2
    refine bodyPost_ret (v := V) ?_ rfl ⟨rfl, HBE.out⟩
    rw [HVV.out, results_cell1 rfl]; simp [go_sem, r0, r1, r2, r3, r4, r5]
  · obtain rfl : b1 = false := by assumption
    obtain rfl : b2 = false := by assumption
    obtain rfl : b3 = false := by assumption
    obtain rfl : b4 = true := by assumption
    exact absurd hc (by unfold Comb; simp)
  · obtain rfl : b1 = false := by assumption
    obtain rfl : b2 = false := by assumption
    obtain rfl : b3 = false := by assumption
    obtain rfl : b4 = false := by assumption
    obtain ⟨w5, hw5, hb5, c0, c1, c2, c3, c4, c5, F5⟩ := new6v w3 (.string n) (.int .i64 0) (.int .i64 0) (.int .i64 0) (.int .i64 0) (.int .u32 0)
    have FR5 : F6x w5 w.heap.size := (HF.out.keep HB3.out).keep hb5
    have HW5 : Hid (Below w.heap.size w w5) := below_tr HB.out (below_tr HB3.out hb5)
    rw [hw5]
    rcases (by unfold Comb at hc; simpa using hc : wd = 20 ∨ wd = 26) with rfl | rfl
    · skip
      have HVV : Hid (V = .agg #[.string n, .int .i64 0, .int .i64 0, .int .i64 0, .int .i64 0, .int .u32 (M20 : Int)]) := by
        show _ = _
        rw [HV.out, HI.out]; rfl
      have KW := K33.out w5
      clear hb5 hw3 yy0 yy1 yy2 yy3 y0 y1 y2 y3
      refine KW.mono ?_
      rintro e w6 ⟨rfl, hb6⟩
      have c0 := keep_cell hb6 c0
      have c1 := keep_cell hb6 c1
      have c2 := keep_cell hb6 c2
      have c3 := keep_cell hb6 c3
      have c4 := keep_cell hb6 c4
      have c5 := keep_cell hb6 c5
      have FR6 := FR5.keep hb6
      have F6i := F5.keep hb6
      have HW6 : Hid (Below w.heap.size w w6) := below_tr HW5.out hb6
      have z5 := F6i.2.2.2.2.2.frozen
      clear KW hb6 hw5 F5 FR5
      obtain ⟨w7, hw7⟩ : ∃ z, w6.setCell ⟨w3.heap.size, 5, none⟩ (.int .u32 (M20 : Int)) = z := ⟨_, rfl⟩
      have d5 : w7.cell? ⟨w3.heap.size, 5, none⟩ = some (.int .u32 (M20 : Int)) := by rw [← hw7]; exact World.cell?_setCell_same _ _ _ F6i.2.2.2.2.2.cell
      have d0 := (by rw [← hw7, World.cell?_setCell_other _ _ _ _ (by simp)]; exact c0 : w7.cell? ⟨w3.heap.size, 0, none⟩ = some (.string n))
      have d1 := (by rw [← hw7, World.cell?_setCell_other _ _ _ _ (by simp)]; exact c1 : w7.cell? ⟨w3.heap.size, 1, none⟩ = some (.int .i64 0))
      have d2 := (by rw [← hw7, World.cell?_setCell_other _ _ _ _ (by simp)]; exact c2 : w7.cell? ⟨w3.heap.size, 2, none⟩ = some (.int .i64 0))
      have d3 := (by rw [← hw7, World.cell?_setCell_other _ _ _ _ (by simp)]; exact c3 : w7.cell? ⟨w3.heap.size, 3, none⟩ = some (.int .i64 0))
      have d4 := (by rw [← hw7, World.cell?_setCell_other _ _ _ _ (by simp)]; exact c4 : w7.cell? ⟨w3.heap.size, 4, none⟩ = some (.int .i64 0))
      have FR7 : F6x w7 w.heap.size := by rw [← hw7]; exact FR6.set _ _
      have HW7 : Hid (Below w.heap.size w w7) := by rw [← hw7]; exact HW6.out.setCell (HLE.out) _
      have t0 := FR7.1.cell
      have t1 := FR7.2.1.cell
      have t2 := FR7.2.2.1.cell
      have t3 := FR7.2.2.2.1.cell
      have t4 := FR7.2.2.2.2.1.cell
      have t5 := FR7.2.2.2.2.2.cell
      have u0 := FR7.1.frozen
      have u1 := FR7.2.1.frozen
      have u2 := FR7.2.2.1.frozen
      have u3 := FR7.2.2.2.1.frozen
      have u4 := FR7.2.2.2.2.1.frozen
      have u5 := FR7.2.2.2.2.2.frozen
      have hres := res6 w7 w.heap.size (.string n) (.int .i64 0) (.int .i64 0) (.int .i64 0) (.int .i64 0) (.int .u32 (M20 : Int)) FR7
      simp only at hres
      have HBE := below6 (n := w.heap.size) HW7.out (Nat.le_refl _) (.string n) (.int .i64 0) (.int .i64 0) (.int .i64 0) (.int .i64 0) (.int .u32 (M20 : Int))
      obtain ⟨W9, hW9⟩ : ∃ z, (((((w7.setCell ⟨w.heap.size, 0, none⟩ (.string n)).setCell ⟨w.heap.size, 1, none⟩ (.int .i64 0)).setCell ⟨w.heap.size, 2, none⟩ (.int .i64 0)).setCell ⟨w.heap.size, 3, none⟩ (.int .i64 0)).setCell ⟨w.heap.size, 4, none⟩ (.int .i64 0)).setCell ⟨w.heap.size, 5, none⟩ (.int .u32 (M20 : Int)) = z := ⟨_, rfl⟩
      rw [hW9] at hres HBE
      have HBE : Hid _ := HBE
      obtain ⟨r0, r1, r2, r3, r4, r5⟩ := hres
      clear FR6 F6i
      go_wp2
      refine bodyPost_ret (v := V) ?_ rfl ⟨rfl, HBE.out⟩
      rw [HVV.out, results_cell1 rfl]; simp [go_sem, r0, r1, r2, r3, r4, r5]
    · skip
      have HVV : Hid (V = .agg #[.string n, .int .i64 0, .int .i64 0, .int .i64 0, .int .i64 0, .int .u32 (M26 : Int)]) := by
        show _ = _
        rw [HV.out, HI.out]; rfl
      have KW := K33.out w5
      clear hb5 hw3 yy0 yy1 yy2 yy3 y0 y1 y2 y3
      refine KW.mono ?_
      rintro e w6 ⟨rfl, hb6⟩
      have c0 := keep_cell hb6 c0
      have c1 := keep_cell hb6 c1
      have c2 := keep_cell hb6 c2
      have c3 := keep_cell hb6 c3
      have c4 := keep_cell hb6 c4
      have c5 := keep_cell hb6 c5
      have FR6 := FR5.keep hb6
      have F6i := F5.keep hb6
      have HW6 : Hid (Below w.heap.size w w6) := below_tr HW5.out hb6
      have z5 := F6i.2.2.2.2.2.frozen
      clear KW hb6 hw5 F5 FR5
      obtain ⟨w7, hw7⟩ : ∃ z, w6.setCell ⟨w3.heap.size, 5, none⟩ (.int .u32 (M26 : Int)) = z := ⟨_, rfl⟩
      have d5 : w7.cell? ⟨w3.heap.size, 5, none⟩ = some (.int .u32 (M26 : Int)) := by rw [← hw7]; exact World.cell?_setCell_same _ _ _ F6i.2.2.2.2.2.cell
      have d0 := (by rw [← hw7, World.cell?_setCell_other _ _ _ _ (by simp)]; exact c0 : w7.cell? ⟨w3.heap.size, 0, none⟩ = some (.string n))
      have d1 := (by rw [← hw7, World.cell?_setCell_other _ _ _ _ (by simp)]; exact c1 : w7.cell? ⟨w3.heap.size, 1, none⟩ = some (.int .i64 0))
      have d2 := (by rw [← hw7, World.cell?_setCell_other _ _ _ _ (by simp)]; exact c2 : w7.cell? ⟨w3.heap.size, 2, none⟩ = some (.int .i64 0))
      have d3 := (by rw [← hw7, World.cell?_setCell_other _ _ _ _ (by simp)]; exact c3 : w7.cell? ⟨w3.heap.size, 3, none⟩ = some (.int .i64 0))
      have d4 := (by rw [← hw7, World.cell?_setCell_other _ _ _ _ (by simp)]; exact c4 : w7.cell? ⟨w3.heap.size, 4, none⟩ = some (.int .i64 0))
      have FR7 : F6x w7 w.heap.size := by rw [← hw7]; exact FR6.set _ _
      have HW7 : Hid (Below w.heap.size w w7) := by rw [← hw7]; exact HW6.out.setCell (HLE.out) _
      have t0 := FR7.1.cell
      have t1 := FR7.2.1.cell
      have t2 := FR7.2.2.1.cell
      have t3 := FR7.2.2.2.1.cell
      have t4 := FR7.2.2.2.2.1.cell
      have t5 := FR7.2.2.2.2.2.cell
      have u0 := FR7.1.frozen
      have u1 := FR7.2.1.frozen
      have u2 := FR7.2.2.1.frozen
      have u3 := FR7.2.2.2.1.frozen
      have u4 := FR7.2.2.2.2.1.frozen
      have u5 := FR7.2.2.2.2.2.frozen
      have hres := res6 w7 w.heap.size (.string n) (.int .i64 0) (.int .i64 0) (.int .i64 0) (.int .i64 0) (.int .u32 (M26 : Int)) FR7
      simp only at hres
      have HBE := below6 (n := w.heap.size) HW7.out (Nat.le_refl _) (.string n) (.int .i64 0) (.int .i64 0) (.int .i64 0) (.int .i64 0) (.int .u32 (M26 : Int))
      obtain ⟨W9, hW9⟩ : ∃ z, (((((w7.setCell ⟨w.heap.size, 0, none⟩ (.string n)).setCell ⟨w.heap.size, 1, none⟩ (.int .i64 0)).setCell ⟨w.heap.size, 2, none⟩ (.int .i64 0)).setCell ⟨w.heap.size, 3, none⟩ (.int .i64 0)).setCell ⟨w.heap.size, 4, none⟩ (.int .i64 0)).setCell ⟨w.heap.size, 5, none⟩ (.int .u32 (M26 : Int)) = z := ⟨_, rfl⟩
      rw [hW9] at hres HBE
      have HBE : Hid _ := HBE
      obtain ⟨r0, r1, r2, r3, r4, r5⟩ := hres
      clear FR6 F6i
      go_wp2
      refine bodyPost_ret (v := V) ?_ rfl ⟨rfl, HBE.out⟩
      rw [HVV.out, results_cell1 rfl]; simp [go_sem, r0, r1, r2, r3, r4, r5]
end Go.Proofs.YtglkkeelocdanaaGreatDoor
