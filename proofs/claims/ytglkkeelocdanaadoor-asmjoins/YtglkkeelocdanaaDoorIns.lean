/- What is proved here: the instruction that a word's fields tell; the word of an instruction's numbers. -/
import Derived.Test.YtglkkeelocdanaaDoorSm
namespace Go.Proofs.YtglkkeelocdanaaDoor
open Go.RowKit
set_option linter.unusedVariables false
set_option linter.unusedSimpArgs false
set_option maxRecDepth 100000
theorem and_u32 (a b : Nat) (ha : a < 4294967296) (hb : b < 4294967296) : bits BinOp.and IntKind.u32 (a : Int) (b : Int) = ((a &&& b : Nat) : Int) := (bits_nat .u32 32 (by decide) (fun n h0 h1 => by rw [IntKind.wrap_u32]; omega) a b (by omega) (by omega)).1
theorem or_u32 (a b : Nat) (ha : a < 4294967296) (hb : b < 4294967296) : bits BinOp.or IntKind.u32 (a : Int) (b : Int) = ((a ||| b : Nat) : Int) := (bits_nat .u32 32 (by decide) (fun n h0 h1 => by rw [IntKind.wrap_u32]; omega) a b (by omega) (by omega)).2
theorem and31 (a d : Nat) (ha : a < 4294967296) : bits BinOp.and IntKind.u32 ((a : Int) / (d : Int)) 31 = ((a / d % 32 : Nat) : Int) := by
  have h : a / d ≤ a := Nat.div_le_self _ _
  have h' : ((a / d : Nat) : Int) ≤ (a : Int) := by exact_mod_cast h
  have h2 : ((a / d : Nat) : Int) < 2 ^ 32 := by rw [show (2 : Int) ^ 32 = 4294967296 from rfl]; omega
  have := bits_mask .u32 32 (by decide) (fun n h0 h1 => by rw [IntKind.wrap_u32]; omega) 5 (by decide) (((a / d : Nat)) : Int) (Int.natCast_nonneg _) h2
  simpa using this
theorem tz_le (g : Nat) : tzN g ≤ 32 := by
  unfold tzN
  repeat' split
  all_goals omega
/-- A word's instruction, by a shape's bits. -/
def insN (s : Sh) (x : Nat) : In := ⟨s.name, ((x &&& s.few) / 2097152 % 32 : Nat), ((x &&& s.few) / 65536 % 32 : Nat), ((x &&& s.few) / 2048 % 32 : Nat), ((x &&& s.few) / 64 % 32 : Nat), (x &&& s.great) / 2 ^ tzN s.great⟩
theorem box66 (w : World) (a b c d e f x0 x1 x2 x3 x4 x5 : Value) (t u : Nat) : ∃ W, (w.alloc (.cells #[a, b, c, d, e, f] t)).alloc (.cells #[x0, x1, x2, x3, x4, x5] u) = W ∧ Below w.heap.size w W ∧ W.heap.size = w.heap.size + 2 ∧
    (W.cell? ⟨w.heap.size, 0, none⟩ = some a ∧ W.cell? ⟨w.heap.size, 1, none⟩ = some b ∧ W.cell? ⟨w.heap.size, 2, none⟩ = some c ∧ W.cell? ⟨w.heap.size, 3, none⟩ = some d ∧ W.cell? ⟨w.heap.size, 4, none⟩ = some e ∧ W.cell? ⟨w.heap.size, 5, none⟩ = some f) ∧
    (W.cell? ⟨w.heap.size + 1, 0, none⟩ = some x0 ∧ W.cell? ⟨w.heap.size + 1, 1, none⟩ = some x1 ∧ W.cell? ⟨w.heap.size + 1, 2, none⟩ = some x2 ∧ W.cell? ⟨w.heap.size + 1, 3, none⟩ = some x3 ∧ W.cell? ⟨w.heap.size + 1, 4, none⟩ = some x4 ∧ W.cell? ⟨w.heap.size + 1, 5, none⟩ = some x5) ∧
    (Free W ⟨w.heap.size + 1, 0, none⟩ ∧ Free W ⟨w.heap.size + 1, 1, none⟩ ∧ Free W ⟨w.heap.size + 1, 2, none⟩ ∧ Free W ⟨w.heap.size + 1, 3, none⟩ ∧ Free W ⟨w.heap.size + 1, 4, none⟩ ∧ Free W ⟨w.heap.size + 1, 5, none⟩) := by
  have hz : w.heap.size + 1 = (w.alloc (.cells #[a, b, c, d, e, f] t)).heap.size := by simp
  refine ⟨_, rfl, ((Below.refl _ _).alloc (Nat.le_refl _) _).alloc (by simp) _, by simp, ⟨?_, ?_, ?_, ?_, ?_, ?_⟩, ⟨?_, ?_, ?_, ?_, ?_, ?_⟩, ⟨⟨⟨x0, ?_⟩, ?_⟩, ⟨⟨x1, ?_⟩, ?_⟩, ⟨⟨x2, ?_⟩, ?_⟩, ⟨⟨x3, ?_⟩, ?_⟩, ⟨⟨x4, ?_⟩, ?_⟩, ⟨⟨x5, ?_⟩, ?_⟩⟩⟩
  all_goals first | exact cell_old (cell_newA w _ _ _ _ _ rfl rfl) _ | exact cell_newA _ _ _ _ _ _ hz rfl | (rw [World.frozen?_alloc_at _ _ _ _ hz])
/-- A result of six cells. -/
theorem res6 (w : World) (n : Nat) (x0 x1 x2 x3 x4 x5 : Value) (h : Free w ⟨n, 0, none⟩ ∧ Free w ⟨n, 1, none⟩ ∧ Free w ⟨n, 2, none⟩ ∧ Free w ⟨n, 3, none⟩ ∧ Free w ⟨n, 4, none⟩ ∧ Free w ⟨n, 5, none⟩) :
    let W := (((((w.setCell ⟨n, 0, none⟩ x0).setCell ⟨n, 1, none⟩ x1).setCell ⟨n, 2, none⟩ x2).setCell ⟨n, 3, none⟩ x3).setCell ⟨n, 4, none⟩ x4).setCell ⟨n, 5, none⟩ x5
    W.cell? ⟨n, 0, none⟩ = some x0 ∧ W.cell? ⟨n, 1, none⟩ = some x1 ∧ W.cell? ⟨n, 2, none⟩ = some x2 ∧ W.cell? ⟨n, 3, none⟩ = some x3 ∧ W.cell? ⟨n, 4, none⟩ = some x4 ∧ W.cell? ⟨n, 5, none⟩ = some x5 := by
  obtain ⟨f0, f1, f2, f3, f4, f5⟩ := h
  refine ⟨?_, ?_, ?_, ?_, ?_, ?_⟩
  · rw [World.cell?_setCell_other _ _ _ _ (by simp)]; rw [World.cell?_setCell_other _ _ _ _ (by simp)]; rw [World.cell?_setCell_other _ _ _ _ (by simp)]; rw [World.cell?_setCell_other _ _ _ _ (by simp)]; rw [World.cell?_setCell_other _ _ _ _ (by simp)]; exact World.cell?_setCell_same _ _ _ f0.cell
  · rw [World.cell?_setCell_other _ _ _ _ (by simp)]; rw [World.cell?_setCell_other _ _ _ _ (by simp)]; rw [World.cell?_setCell_other _ _ _ _ (by simp)]; rw [World.cell?_setCell_other _ _ _ _ (by simp)]; exact World.cell?_setCell_same _ _ _ (f1.set _ _).cell
  · rw [World.cell?_setCell_other _ _ _ _ (by simp)]; rw [World.cell?_setCell_other _ _ _ _ (by simp)]; rw [World.cell?_setCell_other _ _ _ _ (by simp)]; exact World.cell?_setCell_same _ _ _ ((f2.set _ _).set _ _).cell
  · rw [World.cell?_setCell_other _ _ _ _ (by simp)]; rw [World.cell?_setCell_other _ _ _ _ (by simp)]; exact World.cell?_setCell_same _ _ _ (((f3.set _ _).set _ _).set _ _).cell
  · rw [World.cell?_setCell_other _ _ _ _ (by simp)]; exact World.cell?_setCell_same _ _ _ ((((f4.set _ _).set _ _).set _ _).set _ _).cell
  · exact World.cell?_setCell_same _ _ _ (((((f5.set _ _).set _ _).set _ _).set _ _).set _ _).cell
theorem below6 {B : Nat} {w0 w : World} {n : Nat} (h : Below B w0 w) (hn : B ≤ n) (x0 x1 x2 x3 x4 x5 : Value) : Below B w0 ((((((w.setCell ⟨n, 0, none⟩ x0).setCell ⟨n, 1, none⟩ x1).setCell ⟨n, 2, none⟩ x2).setCell ⟨n, 3, none⟩ x3).setCell ⟨n, 4, none⟩ x4).setCell ⟨n, 5, none⟩ x5) :=
  (((((h.setCell hn _).setCell hn _).setCell hn _).setCell hn _).setCell hn _).setCell hn _
set_option maxHeartbeats 1000000 in
theorem ins20 (s : Sh) (x : Nat) (w : World) (hx : x < 4294967296) (hf : s.few < 4294967296) (hg : Great s.great) (ht : Tab w) : Calls Tryd.prog 55 #[s.val, .int .u32 (x : Int)] w fun e w' => e = .returned (insN s x).val ∧ Below w.heap.size w w' := by
  obtain ⟨name, op, same, form, few, great⟩ := s
  simp only [Sh.val]
  simp only at hf hg
  obtain ⟨W, hW, hb, hz, ⟨c0, c1, c2, c3, c4, c5⟩, ⟨d0, d1, d2, d3, d4, d5⟩, hfr⟩ := box66 w (.string name) (.int .u32 (op : Int)) (.int .u32 (same : Int)) (.string form) (.int .u32 (few : Int)) (.int .u32 (great : Int)) (.string ⟨#[]⟩) (.int .i64 0) (.int .i64 0) (.int .i64 0) (.int .i64 0) (.int .u32 0) 75 29
  have HTA : Hid (∀ w', Below W.heap.size W w' → Tab w') := fun w' h => ht.keep (below_tr hb h)
  have hg' : great < 4294967296 := by rcases hg with h | h | h | h <;> omega
  have hF' := and_u32 x few hx hf
  have hG' := and_u32 x great hx hg'
  have hFl : x &&& few < 4294967296 := by have := Nat.and_le_left (n := x) (m := few); omega
  obtain ⟨F, hF⟩ : ∃ F, F = x &&& few := ⟨_, rfl⟩
  obtain ⟨G, hG⟩ : ∃ F, F = x &&& great := ⟨_, rfl⟩
  obtain ⟨T, hT⟩ : ∃ T, T = tzN great := ⟨_, rfl⟩
  have hT32 : T ≤ 32 := by rw [hT]; exact tz_le _
  rw [← hF] at hF' hFl
  rw [← hG] at hG'
  have K30 : Hid (∀ w', Tab w' → Calls Tryd.prog 54 #[.int .u32 (great : Int)] w' fun e w'' => e = .returned (.int .i64 (T : Int)) ∧ w'' = w') := fun w' h => by rw [hT]; exact tz30 great hg w' h
  have e21 : bits BinOp.and IntKind.u32 ((F : Int) / 2097152) 31 = ((F / 2097152 % 32 : Nat) : Int) := and31 F 2097152 hFl
  have e16 : bits BinOp.and IntKind.u32 ((F : Int) / 65536) 31 = ((F / 65536 % 32 : Nat) : Int) := and31 F 65536 hFl
  have e11 : bits BinOp.and IntKind.u32 ((F : Int) / 2048) 31 = ((F / 2048 % 32 : Nat) : Int) := and31 F 2048 hFl
  have e6 : bits BinOp.and IntKind.u32 ((F : Int) / 64) 31 = ((F / 64 % 32 : Nat) : Int) := and31 F 64 hFl
  obtain ⟨R21, r21⟩ : ∃ R, F / 2097152 % 32 = R := ⟨_, rfl⟩
  obtain ⟨R16, r16⟩ : ∃ R, F / 65536 % 32 = R := ⟨_, rfl⟩
  obtain ⟨R11, r11⟩ : ∃ R, F / 2048 % 32 = R := ⟨_, rfl⟩
  obtain ⟨R6, r6⟩ : ∃ R, F / 64 % 32 = R := ⟨_, rfl⟩
  obtain ⟨M, hM⟩ : ∃ R, G / 2 ^ T = R := ⟨_, rfl⟩
  rw [r21] at e21
  rw [r16] at e16
  rw [r11] at e11
  rw [r6] at e6
  have w21 : IntKind.i64.wrap (R21 : Int) = (R21 : Int) := by rw [IntKind.wrap_i64]; omega
  have w16 : IntKind.i64.wrap (R16 : Int) = (R16 : Int) := by rw [IntKind.wrap_i64]; omega
  have w11 : IntKind.i64.wrap (R11 : Int) = (R11 : Int) := by rw [IntKind.wrap_i64]; omega
  have w6 : IntKind.i64.wrap (R6 : Int) = (R6 : Int) := by rw [IntKind.wrap_i64]; omega
  have eG := hG'
  have eM : (G : Int) / 2 ^ min T 32 = (M : Int) := by rw [Nat.min_eq_left hT32, ← hM]; simp
  have HE : Hid ((insN ⟨name, op, same, form, few, great⟩ x).val = .agg #[.string name, .int .i64 (R21 : Int), .int .i64 (R16 : Int), .int .i64 (R11 : Int), .int .i64 (R6 : Int), .int .u32 (M : Int)]) := by
    show _ = _
    simp only [insN, In.val]
    rw [← hF, ← hG, r21, r16, r11, r6, ← hT, hM]
  obtain ⟨V, hV⟩ : ∃ V, V = (insN ⟨name, op, same, form, few, great⟩ x).val := ⟨_, rfl⟩
  rw [← hV] at HE ⊢
  have HB : Hid (Below w.heap.size w W) := hb
  have HFR : Hid (∀ w', Below W.heap.size W w' → Free w' ⟨w.heap.size + 1, 0, none⟩ ∧ Free w' ⟨w.heap.size + 1, 1, none⟩ ∧ Free w' ⟨w.heap.size + 1, 2, none⟩ ∧ Free w' ⟨w.heap.size + 1, 3, none⟩ ∧ Free w' ⟨w.heap.size + 1, 4, none⟩ ∧ Free w' ⟨w.heap.size + 1, 5, none⟩) := fun w' h => ⟨hfr.1.keep h, hfr.2.1.keep h, hfr.2.2.1.keep h, hfr.2.2.2.1.keep h, hfr.2.2.2.2.1.keep h, hfr.2.2.2.2.2.keep h⟩
  clear hV hT hF hG hb hg ht hx hf hg' hG' hFl hT32 r21 r16 r11 r6 hM hfr hz
  go_enter Tryd.func55, Tryd.ntmps55
  go_wp2
  refine wp_region_slots_last (R := Ext) [⟨11, fun v _ => v = .pointer (some ⟨w.heap.size, 0, none⟩), fun _ _ _ _ h => h⟩, ⟨12, fun v _ => v = .pointer (some ⟨w.heap.size, 0, none⟩), fun _ _ _ _ h => h⟩, ⟨13, fun v _ => v = .string name, fun _ _ _ _ h => h⟩, ⟨14, fun v _ => v = .int .u32 (F : Int), fun _ _ _ _ h => h⟩, ⟨15, fun v _ => v = .int .u32 ((F : Int) / 2097152), fun _ _ _ _ h => h⟩, ⟨16, fun v _ => v = .int .u32 (R21 : Int), fun _ _ _ _ h => h⟩, ⟨17, fun v _ => v = .int .i64 (R21 : Int), fun _ _ _ _ h => h⟩, ⟨18, fun v _ => v = .int .u32 (F : Int), fun _ _ _ _ h => h⟩, ⟨19, fun v _ => v = .int .u32 ((F : Int) / 65536), fun _ _ _ _ h => h⟩, ⟨20, fun v _ => v = .int .u32 (R16 : Int), fun _ _ _ _ h => h⟩, ⟨21, fun v _ => v = .int .i64 (R16 : Int), fun _ _ _ _ h => h⟩, ⟨22, fun v _ => v = .int .u32 (F : Int), fun _ _ _ _ h => h⟩, ⟨23, fun v _ => v = .int .u32 ((F : Int) / 2048), fun _ _ _ _ h => h⟩, ⟨24, fun v _ => v = .int .u32 (R11 : Int), fun _ _ _ _ h => h⟩, ⟨25, fun v _ => v = .int .i64 (R11 : Int), fun _ _ _ _ h => h⟩, ⟨26, fun v _ => v = .int .u32 (F : Int), fun _ _ _ _ h => h⟩, ⟨27, fun v _ => v = .int .u32 ((F : Int) / 64), fun _ _ _ _ h => h⟩, ⟨28, fun v _ => v = .int .u32 (R6 : Int), fun _ _ _ _ h => h⟩, ⟨29, fun v _ => v = .int .i64 (R6 : Int), fun _ _ _ _ h => h⟩, ⟨30, fun v _ => v = .int .u32 (x : Int), fun _ _ _ _ h => h⟩, ⟨31, fun v _ => v = .pointer (some ⟨w.heap.size, 4, none⟩), fun _ _ _ _ h => h⟩, ⟨32, fun v _ => v = .pointer (some ⟨w.heap.size, 5, none⟩), fun _ _ _ _ h => h⟩, ⟨33, fun v _ => v = .int .u32 (great : Int), fun _ _ _ _ h => h⟩, ⟨34, fun v _ => v = .int .u32 (G : Int), fun _ _ _ _ h => h⟩, ⟨35, fun v _ => v = .pointer (some ⟨w.heap.size, 4, none⟩), fun _ _ _ _ h => h⟩, ⟨36, fun v _ => v = .pointer (some ⟨w.heap.size, 5, none⟩), fun _ _ _ _ h => h⟩, ⟨37, fun v _ => v = .int .u32 (great : Int), fun _ _ _ _ h => h⟩, ⟨38, fun v _ => v = .int .i64 (T : Int), fun _ _ _ _ h => h⟩, ⟨39, fun v _ => v = .int .u32 (M : Int), fun _ _ _ _ h => h⟩, ⟨40, fun v _ => v = .agg #[.string name, .int .i64 (R21 : Int), .int .i64 (R16 : Int), .int .i64 (R11 : Int), .int .i64 (R6 : Int), .int .u32 (M : Int)], fun _ _ _ _ h => h⟩] _ 30 _ (by kernel_rfl) rfl (by kernel_rfl) rfl rfl rfl rfl (by kernel_rfl) (Below.drew (Below.refl _ _)) (fun _ _ _ h1 h2 => below_tr h1 h2) (fun QQ => ⟨?_, ?_, ?_, ?_, ?_, ?_, ?_, ?_, ?_, ?_, ?_, ?_, ?_, ?_, ?_, ?_, ?_, ?_, ?_, ?_, ?_, ?_, ?_, ?_, ?_, ?_, ?_, ?_, ?_, ?_, trivial⟩) (fun f wy hR hf A hA K hK => ?_)
  · intro A wx hR hout hdep K hK
    have h2 : A.tmps[2]?.getD undef = .pointer (some ⟨w.heap.size, 0, none⟩) := hout 2 (by kernel_rfl)
    refine if_yes (by kernel_rfl) ?_
    simp [go_sem, h2, e21, e16, e11, e6, eG, eM, w21, w16, w11, w6]
    exact hK.out _ _ (Below.refl _ _) rfl
  · intro A wx hR hout hdep K hK
    have h11 : A.tmps[11]?.getD undef = .pointer (some ⟨w.heap.size, 0, none⟩) := hdep 11 (by kernel_rfl)
    refine if_yes (by kernel_rfl) ?_
    simp [go_sem, h11, e21, e16, e11, e6, eG, eM, w21, w16, w11, w6]
    exact hK.out _ _ (Below.refl _ _) rfl
  · intro A wx hR hout hdep K hK
    have h12 : A.tmps[12]?.getD undef = .pointer (some ⟨w.heap.size, 0, none⟩) := hdep 12 (by kernel_rfl)
    refine if_yes (by kernel_rfl) ?_
    have c0 := keep_cell hR c0
    have c4 := keep_cell hR c4
    have c5 := keep_cell hR c5
    simp [go_sem, h12, c0, c4, c5, e21, e16, e11, e6, eG, eM, w21, w16, w11, w6]
    exact hK.out _ _ (Below.refl _ _) rfl
  · intro A wx hR hout hdep K hK
    have h5 : A.tmps[5]?.getD undef = .int .u32 (F : Int) := hout 5 (by kernel_rfl)
    refine if_yes (by kernel_rfl) ?_
    simp [go_sem, h5, e21, e16, e11, e6, eG, eM, w21, w16, w11, w6]
    exact hK.out _ _ (Below.refl _ _) rfl
  · intro A wx hR hout hdep K hK
    have h14 : A.tmps[14]?.getD undef = .int .u32 (F : Int) := hdep 14 (by kernel_rfl)
    refine if_yes (by kernel_rfl) ?_
    simp [go_sem, h14, e21, e16, e11, e6, eG, eM, w21, w16, w11, w6]
    exact hK.out _ _ (Below.refl _ _) rfl
  · intro A wx hR hout hdep K hK
    have h15 : A.tmps[15]?.getD undef = .int .u32 ((F : Int) / 2097152) := hdep 15 (by kernel_rfl)
    refine if_yes (by kernel_rfl) ?_
    simp [go_sem, h15, e21, e16, e11, e6, eG, eM, w21, w16, w11, w6]
    exact hK.out _ _ (Below.refl _ _) rfl
  · intro A wx hR hout hdep K hK
    have h16 : A.tmps[16]?.getD undef = .int .u32 (R21 : Int) := hdep 16 (by kernel_rfl)
    refine if_yes (by kernel_rfl) ?_
    simp [go_sem, h16, e21, e16, e11, e6, eG, eM, w21, w16, w11, w6]
    exact hK.out _ _ (Below.refl _ _) rfl
  · intro A wx hR hout hdep K hK
    have h5 : A.tmps[5]?.getD undef = .int .u32 (F : Int) := hout 5 (by kernel_rfl)
    refine if_yes (by kernel_rfl) ?_
    simp [go_sem, h5, e21, e16, e11, e6, eG, eM, w21, w16, w11, w6]
    exact hK.out _ _ (Below.refl _ _) rfl
  · intro A wx hR hout hdep K hK
    have h18 : A.tmps[18]?.getD undef = .int .u32 (F : Int) := hdep 18 (by kernel_rfl)
    refine if_yes (by kernel_rfl) ?_
    simp [go_sem, h18, e21, e16, e11, e6, eG, eM, w21, w16, w11, w6]
    exact hK.out _ _ (Below.refl _ _) rfl
  · intro A wx hR hout hdep K hK
    have h19 : A.tmps[19]?.getD undef = .int .u32 ((F : Int) / 65536) := hdep 19 (by kernel_rfl)
    refine if_yes (by kernel_rfl) ?_
    simp [go_sem, h19, e21, e16, e11, e6, eG, eM, w21, w16, w11, w6]
    exact hK.out _ _ (Below.refl _ _) rfl
  · intro A wx hR hout hdep K hK
    have h20 : A.tmps[20]?.getD undef = .int .u32 (R16 : Int) := hdep 20 (by kernel_rfl)
    refine if_yes (by kernel_rfl) ?_
    simp [go_sem, h20, e21, e16, e11, e6, eG, eM, w21, w16, w11, w6]
    exact hK.out _ _ (Below.refl _ _) rfl
  · intro A wx hR hout hdep K hK
    have h5 : A.tmps[5]?.getD undef = .int .u32 (F : Int) := hout 5 (by kernel_rfl)
    refine if_yes (by kernel_rfl) ?_
    simp [go_sem, h5, e21, e16, e11, e6, eG, eM, w21, w16, w11, w6]
    exact hK.out _ _ (Below.refl _ _) rfl
  · intro A wx hR hout hdep K hK
    have h22 : A.tmps[22]?.getD undef = .int .u32 (F : Int) := hdep 22 (by kernel_rfl)
    refine if_yes (by kernel_rfl) ?_
    simp [go_sem, h22, e21, e16, e11, e6, eG, eM, w21, w16, w11, w6]
    exact hK.out _ _ (Below.refl _ _) rfl
  · intro A wx hR hout hdep K hK
    have h23 : A.tmps[23]?.getD undef = .int .u32 ((F : Int) / 2048) := hdep 23 (by kernel_rfl)
    refine if_yes (by kernel_rfl) ?_
    simp [go_sem, h23, e21, e16, e11, e6, eG, eM, w21, w16, w11, w6]
    exact hK.out _ _ (Below.refl _ _) rfl
  · intro A wx hR hout hdep K hK
    have h24 : A.tmps[24]?.getD undef = .int .u32 (R11 : Int) := hdep 24 (by kernel_rfl)
    refine if_yes (by kernel_rfl) ?_
    simp [go_sem, h24, e21, e16, e11, e6, eG, eM, w21, w16, w11, w6]
    exact hK.out _ _ (Below.refl _ _) rfl
  · intro A wx hR hout hdep K hK
    have h5 : A.tmps[5]?.getD undef = .int .u32 (F : Int) := hout 5 (by kernel_rfl)
    refine if_yes (by kernel_rfl) ?_
    simp [go_sem, h5, e21, e16, e11, e6, eG, eM, w21, w16, w11, w6]
    exact hK.out _ _ (Below.refl _ _) rfl
  · intro A wx hR hout hdep K hK
    have h26 : A.tmps[26]?.getD undef = .int .u32 (F : Int) := hdep 26 (by kernel_rfl)
    refine if_yes (by kernel_rfl) ?_
    simp [go_sem, h26, e21, e16, e11, e6, eG, eM, w21, w16, w11, w6]
    exact hK.out _ _ (Below.refl _ _) rfl
  · intro A wx hR hout hdep K hK
    have h27 : A.tmps[27]?.getD undef = .int .u32 ((F : Int) / 64) := hdep 27 (by kernel_rfl)
    refine if_yes (by kernel_rfl) ?_
    simp [go_sem, h27, e21, e16, e11, e6, eG, eM, w21, w16, w11, w6]
    exact hK.out _ _ (Below.refl _ _) rfl
  · intro A wx hR hout hdep K hK
    have h28 : A.tmps[28]?.getD undef = .int .u32 (R6 : Int) := hdep 28 (by kernel_rfl)
    refine if_yes (by kernel_rfl) ?_
    simp [go_sem, h28, e21, e16, e11, e6, eG, eM, w21, w16, w11, w6]
    exact hK.out _ _ (Below.refl _ _) rfl
  · intro A wx hR hout hdep K hK
    have h1 : A.tmps[1]?.getD undef = .int .u32 (x : Int) := hout 1 (by kernel_rfl)
    refine if_yes (by kernel_rfl) ?_
    simp [go_sem, h1, e21, e16, e11, e6, eG, eM, w21, w16, w11, w6]
    exact hK.out _ _ (Below.refl _ _) rfl
  · intro A wx hR hout hdep K hK
    have h2 : A.tmps[2]?.getD undef = .pointer (some ⟨w.heap.size, 0, none⟩) := hout 2 (by kernel_rfl)
    refine if_yes (by kernel_rfl) ?_
    simp [go_sem, h2, e21, e16, e11, e6, eG, eM, w21, w16, w11, w6]
    exact hK.out _ _ (Below.refl _ _) rfl
  · intro A wx hR hout hdep K hK
    have h31 : A.tmps[31]?.getD undef = .pointer (some ⟨w.heap.size, 4, none⟩) := hdep 31 (by kernel_rfl)
    refine if_yes (by kernel_rfl) ?_
    simp [go_sem, h31, e21, e16, e11, e6, eG, eM, w21, w16, w11, w6]
    exact hK.out _ _ (Below.refl _ _) rfl
  · intro A wx hR hout hdep K hK
    have h32 : A.tmps[32]?.getD undef = .pointer (some ⟨w.heap.size, 5, none⟩) := hdep 32 (by kernel_rfl)
    refine if_yes (by kernel_rfl) ?_
    have c0 := keep_cell hR c0
    have c4 := keep_cell hR c4
    have c5 := keep_cell hR c5
    simp [go_sem, h32, c0, c4, c5, e21, e16, e11, e6, eG, eM, w21, w16, w11, w6]
    exact hK.out _ _ (Below.refl _ _) rfl
  · intro A wx hR hout hdep K hK
    have h30 : A.tmps[30]?.getD undef = .int .u32 (x : Int) := hdep 30 (by kernel_rfl)
    have h33 : A.tmps[33]?.getD undef = .int .u32 (great : Int) := hdep 33 (by kernel_rfl)
    refine if_yes (by kernel_rfl) ?_
    simp [go_sem, h30, h33, e21, e16, e11, e6, eG, eM, w21, w16, w11, w6]
    exact hK.out _ _ (Below.refl _ _) rfl
  · intro A wx hR hout hdep K hK
    have h2 : A.tmps[2]?.getD undef = .pointer (some ⟨w.heap.size, 0, none⟩) := hout 2 (by kernel_rfl)
    refine if_yes (by kernel_rfl) ?_
    simp [go_sem, h2, e21, e16, e11, e6, eG, eM, w21, w16, w11, w6]
    exact hK.out _ _ (Below.refl _ _) rfl
  · intro A wx hR hout hdep K hK
    have h35 : A.tmps[35]?.getD undef = .pointer (some ⟨w.heap.size, 4, none⟩) := hdep 35 (by kernel_rfl)
    refine if_yes (by kernel_rfl) ?_
    simp [go_sem, h35, e21, e16, e11, e6, eG, eM, w21, w16, w11, w6]
    exact hK.out _ _ (Below.refl _ _) rfl
  · intro A wx hR hout hdep K hK
    have h36 : A.tmps[36]?.getD undef = .pointer (some ⟨w.heap.size, 5, none⟩) := hdep 36 (by kernel_rfl)
    refine if_yes (by kernel_rfl) ?_
    have c0 := keep_cell hR c0
    have c4 := keep_cell hR c4
    have c5 := keep_cell hR c5
    simp [go_sem, h36, c0, c4, c5, e21, e16, e11, e6, eG, eM, w21, w16, w11, w6]
    exact hK.out _ _ (Below.refl _ _) rfl
  · intro A wx hR hout hdep K hK
    have h37 : A.tmps[37]?.getD undef = .int .u32 (great : Int) := hdep 37 (by kernel_rfl)
    refine if_yes (by kernel_rfl) ?_
    simp [go_sem, h37, e21, e16, e11, e6, eG, eM, w21, w16, w11, w6]
    refine (K30.out wx (HTA.out wx hR)).mono ?_
    rintro e wG ⟨rfl, rfl⟩
    exact hK.out _ _ (Below.refl _ _) rfl
  · intro A wx hR hout hdep K hK
    have h34 : A.tmps[34]?.getD undef = .int .u32 (G : Int) := hdep 34 (by kernel_rfl)
    have h38 : A.tmps[38]?.getD undef = .int .i64 (T : Int) := hdep 38 (by kernel_rfl)
    refine if_yes (by kernel_rfl) ?_
    simp [go_sem, h34, h38, e21, e16, e11, e6, eG, eM, w21, w16, w11, w6]
    exact hK.out _ _ (Below.refl _ _) rfl
  · intro A wx hR hout hdep K hK
    have h13 : A.tmps[13]?.getD undef = .string name := hdep 13 (by kernel_rfl)
    have h17 : A.tmps[17]?.getD undef = .int .i64 (R21 : Int) := hdep 17 (by kernel_rfl)
    have h21 : A.tmps[21]?.getD undef = .int .i64 (R16 : Int) := hdep 21 (by kernel_rfl)
    have h25 : A.tmps[25]?.getD undef = .int .i64 (R11 : Int) := hdep 25 (by kernel_rfl)
    have h29 : A.tmps[29]?.getD undef = .int .i64 (R6 : Int) := hdep 29 (by kernel_rfl)
    have h39 : A.tmps[39]?.getD undef = .int .u32 (M : Int) := hdep 39 (by kernel_rfl)
    refine if_yes (by kernel_rfl) ?_
    simp [go_sem, h13, h17, h21, h25, h29, h39, e21, e16, e11, e6, eG, eM, w21, w16, w11, w6]
    exact hK.out _ _ (Below.refl _ _) rfl
  obtain ⟨f0, f1, f2, f3, f4, f5⟩ := HFR.out wy hR
  have q0 := f0.cell
  have q1 := f1.cell
  have q2 := f2.cell
  have q3 := f3.cell
  have q4 := f4.cell
  have q5 := f5.cell
  have z0 := f0.frozen
  have z1 := f1.frozen
  have z2 := f2.frozen
  have z3 := f3.frozen
  have z4 := f4.frozen
  have z5 := f5.frozen
  have h40 : f 40 = .agg #[.string name, .int .i64 (R21 : Int), .int .i64 (R16 : Int), .int .i64 (R11 : Int), .int .i64 (R6 : Int), .int .u32 (M : Int)] := hf 40 (by kernel_rfl)
  simp only [putSl, List.take_succ_cons, List.take_zero, Act.put, List.setIfInBounds_toArray, List.set_cons_zero, List.set_cons_succ, h40] at hA
  subst hA
  simp [go_sem, q0, q1, q2, q3, q4, q5, z0, z1, z2, z3, z4, z5]
  refine hK.out _ _ ?_
  have hres := res6 wy (w.heap.size + 1) (.string name) (.int .i64 (R21 : Int)) (.int .i64 (R16 : Int)) (.int .i64 (R11 : Int)) (.int .i64 (R6 : Int)) (.int .u32 (M : Int)) (HFR.out wy hR)
  have HBE : Hid _ := below6 (n := w.heap.size + 1) (below_tr HB.out hR) (by omega) (.string name) (.int .i64 (R21 : Int)) (.int .i64 (R16 : Int)) (.int .i64 (R11 : Int)) (.int .i64 (R6 : Int)) (.int .u32 (M : Int))
  simp only at hres
  obtain ⟨W9, hW9⟩ : ∃ z, (((((wy.setCell ⟨w.heap.size + 1, 0, none⟩ (.string name)).setCell ⟨w.heap.size + 1, 1, none⟩ (.int .i64 (R21 : Int))).setCell ⟨w.heap.size + 1, 2, none⟩ (.int .i64 (R16 : Int))).setCell ⟨w.heap.size + 1, 3, none⟩ (.int .i64 (R11 : Int))).setCell ⟨w.heap.size + 1, 4, none⟩ (.int .i64 (R6 : Int))).setCell ⟨w.heap.size + 1, 5, none⟩ (.int .u32 (M : Int)) = z := ⟨_, rfl⟩
  rw [hW9] at hres HBE ⊢
  obtain ⟨s0, s1, s2, s3, s4, s5⟩ := hres
  clear hW9 hK q0 q1 q2 q3 q4 q5 z0 z1 z2 z3 z4 z5 f0 f1 f2 f3 f4 f5
  go_wp2
  refine bodyPost_ret (v := V) ?_ rfl ⟨rfl, HBE.out⟩
  rw [HE.out, results_cell1 rfl]; simp [go_sem, s0, s1, s2, s3, s4, s5]
/-- A number's lowest 32 bits, times m, modulo 2^32. -/
def shN (z : Int) (m : Nat) : Nat := (z % 4294967296).toNat * m % 4294967296
theorem shN_is (z : Int) (m : Nat) : z % 4294967296 * (m : Int) % 4294967296 = (shN z m : Int) := by
  have h : ((z % 4294967296).toNat : Int) = z % 4294967296 := Int.toNat_of_nonneg (Int.emod_nonneg _ (by decide))
  unfold shN
  rw [Int.natCast_emod, Int.natCast_mul, h]
  rfl
theorem shN_lt (z : Int) (m : Nat) : shN z m < 4294967296 := Nat.mod_lt _ (by decide)
def isDsd (s : Sh) : Bool := s.form.toList == [100, 115, 100]
/-- The word with an instruction's numbers laid in it, but Imm. -/
def bareN (s : Sh) (i : In) : Nat := ((s.op * 67108864 % 4294967296 ||| s.same) ||| (((shN i.rs 2097152 ||| shN i.rt 65536) ||| shN i.rd 2048) ||| shN i.sa 64)) ||| (if isDsd s then shN i.rd 65536 else 0)
def wordN (s : Sh) (i : In) : Nat := bareN s i ||| i.imm * 2 ^ tzN s.great % 4294967296
theorem or_lt (a b : Nat) (ha : a < 4294967296) (hb : b < 4294967296) : a ||| b < 4294967296 := Nat.or_lt_two_pow (n := 32) ha hb
set_option maxHeartbeats 1000000 in
theorem word25 (s : Sh) (i : In) (w : World) (hi : i.imm < 4294967296) (hsa : s.same < 4294967296) (hg : Great s.great) (ht : Tab w) : Calls Tryd.prog 36 #[s.val, i.val] w fun e w' => e = .returned (.int .u32 (wordN s i : Int)) ∧ Below w.heap.size w w' := by
  obtain ⟨name, op, same, form, few, great⟩ := s
  obtain ⟨nm, rs, rt, rd, sa, imm⟩ := i
  simp only [Sh.val, In.val, wordN, bareN]
  simp only at hi hsa hg
  obtain ⟨W, hW, hb, hz, ⟨c0, c1, c2, c3, c4, c5⟩, ⟨d0, d1, d2, d3, d4, d5⟩, hfr⟩ := box66 w (.string name) (.int .u32 (op : Int)) (.int .u32 (same : Int)) (.string form) (.int .u32 (few : Int)) (.int .u32 (great : Int)) (.string nm) (.int .i64 rs) (.int .i64 rt) (.int .i64 rd) (.int .i64 sa) (.int .u32 (imm : Int)) 75 29
  have HTA : Hid (∀ w', Below W.heap.size W w' → Tab w') := fun w' h => ht.keep (below_tr hb h)
  obtain ⟨T, hT⟩ : ∃ T, T = tzN great := ⟨_, rfl⟩
  have hT32 : T ≤ 32 := by rw [hT]; exact tz_le _
  have K30 : Hid (∀ w', Tab w' → Calls Tryd.prog 54 #[.int .u32 (great : Int)] w' fun e w'' => e = .returned (.int .i64 (T : Int)) ∧ w'' = w') := fun w' h => by rw [hT]; exact tz30 great hg w' h
  have s1 : rs % 4294967296 * 2097152 % 4294967296 = _ := shN_is rs 2097152
  have s2 : rt % 4294967296 * 65536 % 4294967296 = _ := shN_is rt 65536
  have s3 : rd % 4294967296 * 2048 % 4294967296 = _ := shN_is rd 2048
  have s4 : sa % 4294967296 * 64 % 4294967296 = _ := shN_is sa 64
  have s5 : rd % 4294967296 * 65536 % 4294967296 = _ := shN_is rd 65536
  have l1 := shN_lt rs 2097152
  have l2 := shN_lt rt 65536
  have l3 := shN_lt rd 2048
  have l4 := shN_lt sa 64
  have l5 := shN_lt rd 65536
  generalize shN rs 2097152 = S1 at s1 l1 ⊢
  generalize shN rt 65536 = S2 at s2 l2 ⊢
  generalize shN rd 2048 = S3 at s3 l3 ⊢
  generalize shN sa 64 = S4 at s4 l4 ⊢
  generalize shN rd 65536 = S5 at s5 l5 ⊢
  have a1 : (op : Int) * 67108864 % 4294967296 = ((op * 67108864 % 4294967296 : Nat) : Int) := by simp
  have l0 : op * 67108864 % 4294967296 < 4294967296 := Nat.mod_lt _ (by decide)
  generalize op * 67108864 % 4294967296 = O at a1 l0 ⊢
  have b0 := or_u32 O same l0 hsa
  have m0 := or_lt O same l0 hsa
  generalize O ||| same = B0 at b0 m0 ⊢
  have b1 := or_u32 S1 S2 l1 l2
  have m1 := or_lt S1 S2 l1 l2
  generalize S1 ||| S2 = C1 at b1 m1 ⊢
  have b2 := or_u32 C1 S3 m1 l3
  have m2 := or_lt C1 S3 m1 l3
  generalize C1 ||| S3 = C2 at b2 m2 ⊢
  have b3 := or_u32 C2 S4 m2 l4
  have m3 := or_lt C2 S4 m2 l4
  generalize C2 ||| S4 = C3 at b3 m3 ⊢
  have b4 := or_u32 B0 C3 m0 m3
  have m4 := or_lt B0 C3 m0 m3
  generalize B0 ||| C3 = B1 at b4 m4 ⊢
  have b5 := or_u32 B1 S5 m4 l5
  have m5 := or_lt B1 S5 m4 l5
  have hMl : imm * 2 ^ T % 4294967296 < 4294967296 := Nat.mod_lt _ (by decide)
  have eM0 : (imm : Int) * 2 ^ T % 4294967296 = ((imm * 2 ^ T % 4294967296 : Nat) : Int) := by simp
  have eM : (imm : Int) * 2 ^ min T 32 % 4294967296 = ((imm * 2 ^ T % 4294967296 : Nat) : Int) := by rw [Nat.min_eq_left hT32]; exact eM0
  have eMw : IntKind.u32.wrap ((imm : Int) * 2 ^ min T 32) = ((imm * 2 ^ T % 4294967296 : Nat) : Int) := by rw [IntKind.wrap_u32]; exact eM
  rw [← hT]
  obtain ⟨M, hM⟩ : ∃ z, z = imm * 2 ^ T % 4294967296 := ⟨_, rfl⟩
  rw [← hM] at hMl eM eMw ⊢
  clear hM
  have HB : Hid (Below w.heap.size w W) := hb
  clear eM0 hT32 hb hT hg hi hsa hfr hz l0 l1 l2 l3 l4 l5 m0 m1 m2 m3 ht
  obtain ⟨D, hD⟩ : ∃ D, D = isDsd ⟨name, op, same, form, few, great⟩ := ⟨_, rfl⟩
  rw [← hD]
  have hd : (form.toList == [100, 115, 100]) = D := hD.symm
  clear hD
  cases D
  rotate_left
  · rw [if_pos rfl]
    generalize B1 ||| S5 = B at b5 m5 ⊢
    have eR := or_u32 B M m5 hMl
    generalize B ||| M = R at eR ⊢
    clear m4 m5 hMl
    go_enter Tryd.func36, Tryd.ntmps36
    go_wp2
    refine wp_region_slots (R := Ext) [⟨45, fun v _ => v = .int .u32 (B : Int), fun _ _ _ _ h => h⟩, ⟨46, fun v _ => v = .pointer (some ⟨w.heap.size + 1, 5, none⟩), fun _ _ _ _ h => h⟩, ⟨47, fun v _ => v = .int .u32 (imm : Int), fun _ _ _ _ h => h⟩, ⟨48, fun v _ => v = .pointer (some ⟨w.heap.size, 4, none⟩), fun _ _ _ _ h => h⟩, ⟨49, fun v _ => v = .pointer (some ⟨w.heap.size, 5, none⟩), fun _ _ _ _ h => h⟩, ⟨50, fun v _ => v = .int .u32 (great : Int), fun _ _ _ _ h => h⟩, ⟨51, fun v _ => v = .int .i64 (T : Int), fun _ _ _ _ h => h⟩, ⟨52, fun v _ => v = .int .u32 (M : Int), fun _ _ _ _ h => h⟩, ⟨53, fun v _ => v = .int .u32 (R : Int), fun _ _ _ _ h => h⟩, ⟨4, fun v _ => v = .int .u32 (R : Int), fun _ _ _ _ h => h⟩] _ (by kernel_rfl) rfl (by kernel_rfl) (Below.drew (Below.refl _ _)) (fun _ _ _ h1 h2 => below_tr h1 h2) (fun QQ => ⟨?_, ?_, ?_, ?_, ?_, ?_, ?_, ?_, ?_, ?_, trivial⟩) (fun f wy hR hf => ?_)
    · intro A wx hR hout hdep K hK
      have h5 : A.tmps[5]?.getD undef = .int .u32 (B : Int) := hout 5 (by kernel_rfl)
      refine if_yes (by kernel_rfl) ?_
      simp [go_sem, h5, eM, eMw, eR]
      exact hK.out _ _ (Below.refl _ _) rfl
    · intro A wx hR hout hdep K hK
      have h3 : A.tmps[3]?.getD undef = .pointer (some ⟨w.heap.size + 1, 0, none⟩) := hout 3 (by kernel_rfl)
      refine if_yes (by kernel_rfl) ?_
      simp [go_sem, h3, eM, eMw, eR]
      exact hK.out _ _ (Below.refl _ _) rfl
    · intro A wx hR hout hdep K hK
      have h46 : A.tmps[46]?.getD undef = .pointer (some ⟨w.heap.size + 1, 5, none⟩) := hdep 46 (by kernel_rfl)
      refine if_yes (by kernel_rfl) ?_
      have c5 := keep_cell hR c5
      have d5 := keep_cell hR d5
      simp [go_sem, h46, c5, d5, eM, eMw, eR]
      exact hK.out _ _ (Below.refl _ _) rfl
    · intro A wx hR hout hdep K hK
      have h2 : A.tmps[2]?.getD undef = .pointer (some ⟨w.heap.size, 0, none⟩) := hout 2 (by kernel_rfl)
      refine if_yes (by kernel_rfl) ?_
      simp [go_sem, h2, eM, eMw, eR]
      exact hK.out _ _ (Below.refl _ _) rfl
    · intro A wx hR hout hdep K hK
      have h48 : A.tmps[48]?.getD undef = .pointer (some ⟨w.heap.size, 4, none⟩) := hdep 48 (by kernel_rfl)
      refine if_yes (by kernel_rfl) ?_
      simp [go_sem, h48, eM, eMw, eR]
      exact hK.out _ _ (Below.refl _ _) rfl
    · intro A wx hR hout hdep K hK
      have h49 : A.tmps[49]?.getD undef = .pointer (some ⟨w.heap.size, 5, none⟩) := hdep 49 (by kernel_rfl)
      refine if_yes (by kernel_rfl) ?_
      have c5 := keep_cell hR c5
      have d5 := keep_cell hR d5
      simp [go_sem, h49, c5, d5, eM, eMw, eR]
      exact hK.out _ _ (Below.refl _ _) rfl
    · intro A wx hR hout hdep K hK
      have h50 : A.tmps[50]?.getD undef = .int .u32 (great : Int) := hdep 50 (by kernel_rfl)
      refine if_yes (by kernel_rfl) ?_
      simp [go_sem, h50, eM, eMw, eR]
      refine (K30.out wx (HTA.out wx hR)).mono ?_
      rintro e wG ⟨rfl, rfl⟩
      exact hK.out _ _ (Below.refl _ _) rfl
    · intro A wx hR hout hdep K hK
      have h47 : A.tmps[47]?.getD undef = .int .u32 (imm : Int) := hdep 47 (by kernel_rfl)
      have h51 : A.tmps[51]?.getD undef = .int .i64 (T : Int) := hdep 51 (by kernel_rfl)
      refine if_yes (by kernel_rfl) ?_
      simp [go_sem, h47, h51, eM, eMw, eR]
      exact hK.out _ _ (Below.refl _ _) rfl
    · intro A wx hR hout hdep K hK
      have h45 : A.tmps[45]?.getD undef = .int .u32 (B : Int) := hdep 45 (by kernel_rfl)
      have h52 : A.tmps[52]?.getD undef = .int .u32 (M : Int) := hdep 52 (by kernel_rfl)
      refine if_yes (by kernel_rfl) ?_
      simp [go_sem, h45, h52, eM, eMw, eR]
      exact hK.out _ _ (Below.refl _ _) rfl
    · intro A wx hR hout hdep K hK
      have h53 : A.tmps[53]?.getD undef = .int .u32 (R : Int) := hdep 53 (by kernel_rfl)
      refine if_yes (by kernel_rfl) ?_
      simp [go_sem, h53, eM, eMw, eR]
      exact hK.out _ _ (Below.refl _ _) rfl
    simp only [putSl, Act.put, List.setIfInBounds_toArray, List.set_cons_zero, List.set_cons_succ, show f 4 = .int .u32 (R : Int) from hf 4 (by kernel_rfl)]
    have HBE : Hid (Below w.heap.size w wy) := below_tr HB.out hR
    go_wp2
    go_ret
    exact ⟨rfl, HBE.out⟩
  · rw [if_neg (by decide), Nat.or_zero]
    have eR := or_u32 B1 M m4 hMl
    generalize B1 ||| M = R at eR ⊢
    clear m4 m5 hMl b5 s5
    go_enter Tryd.func36, Tryd.ntmps36
    go_wp2
    refine wp_region_slots (R := Ext) [⟨45, fun v _ => v = .int .u32 (B1 : Int), fun _ _ _ _ h => h⟩, ⟨46, fun v _ => v = .pointer (some ⟨w.heap.size + 1, 5, none⟩), fun _ _ _ _ h => h⟩, ⟨47, fun v _ => v = .int .u32 (imm : Int), fun _ _ _ _ h => h⟩, ⟨48, fun v _ => v = .pointer (some ⟨w.heap.size, 4, none⟩), fun _ _ _ _ h => h⟩, ⟨49, fun v _ => v = .pointer (some ⟨w.heap.size, 5, none⟩), fun _ _ _ _ h => h⟩, ⟨50, fun v _ => v = .int .u32 (great : Int), fun _ _ _ _ h => h⟩, ⟨51, fun v _ => v = .int .i64 (T : Int), fun _ _ _ _ h => h⟩, ⟨52, fun v _ => v = .int .u32 (M : Int), fun _ _ _ _ h => h⟩, ⟨53, fun v _ => v = .int .u32 (R : Int), fun _ _ _ _ h => h⟩, ⟨4, fun v _ => v = .int .u32 (R : Int), fun _ _ _ _ h => h⟩] _ (by kernel_rfl) rfl (by kernel_rfl) (Below.drew (Below.refl _ _)) (fun _ _ _ h1 h2 => below_tr h1 h2) (fun QQ => ⟨?_, ?_, ?_, ?_, ?_, ?_, ?_, ?_, ?_, ?_, trivial⟩) (fun f wy hR hf => ?_)
    · intro A wx hR hout hdep K hK
      have h5 : A.tmps[5]?.getD undef = .int .u32 (B1 : Int) := hout 5 (by kernel_rfl)
      refine if_yes (by kernel_rfl) ?_
      simp [go_sem, h5, eM, eMw, eR]
      exact hK.out _ _ (Below.refl _ _) rfl
    · intro A wx hR hout hdep K hK
      have h3 : A.tmps[3]?.getD undef = .pointer (some ⟨w.heap.size + 1, 0, none⟩) := hout 3 (by kernel_rfl)
      refine if_yes (by kernel_rfl) ?_
      simp [go_sem, h3, eM, eMw, eR]
      exact hK.out _ _ (Below.refl _ _) rfl
    · intro A wx hR hout hdep K hK
      have h46 : A.tmps[46]?.getD undef = .pointer (some ⟨w.heap.size + 1, 5, none⟩) := hdep 46 (by kernel_rfl)
      refine if_yes (by kernel_rfl) ?_
      have c5 := keep_cell hR c5
      have d5 := keep_cell hR d5
      simp [go_sem, h46, c5, d5, eM, eMw, eR]
      exact hK.out _ _ (Below.refl _ _) rfl
    · intro A wx hR hout hdep K hK
      have h2 : A.tmps[2]?.getD undef = .pointer (some ⟨w.heap.size, 0, none⟩) := hout 2 (by kernel_rfl)
      refine if_yes (by kernel_rfl) ?_
      simp [go_sem, h2, eM, eMw, eR]
      exact hK.out _ _ (Below.refl _ _) rfl
    · intro A wx hR hout hdep K hK
      have h48 : A.tmps[48]?.getD undef = .pointer (some ⟨w.heap.size, 4, none⟩) := hdep 48 (by kernel_rfl)
      refine if_yes (by kernel_rfl) ?_
      simp [go_sem, h48, eM, eMw, eR]
      exact hK.out _ _ (Below.refl _ _) rfl
    · intro A wx hR hout hdep K hK
      have h49 : A.tmps[49]?.getD undef = .pointer (some ⟨w.heap.size, 5, none⟩) := hdep 49 (by kernel_rfl)
      refine if_yes (by kernel_rfl) ?_
      have c5 := keep_cell hR c5
      have d5 := keep_cell hR d5
      simp [go_sem, h49, c5, d5, eM, eMw, eR]
      exact hK.out _ _ (Below.refl _ _) rfl
    · intro A wx hR hout hdep K hK
      have h50 : A.tmps[50]?.getD undef = .int .u32 (great : Int) := hdep 50 (by kernel_rfl)
      refine if_yes (by kernel_rfl) ?_
      simp [go_sem, h50, eM, eMw, eR]
      refine (K30.out wx (HTA.out wx hR)).mono ?_
      rintro e wG ⟨rfl, rfl⟩
      exact hK.out _ _ (Below.refl _ _) rfl
    · intro A wx hR hout hdep K hK
      have h47 : A.tmps[47]?.getD undef = .int .u32 (imm : Int) := hdep 47 (by kernel_rfl)
      have h51 : A.tmps[51]?.getD undef = .int .i64 (T : Int) := hdep 51 (by kernel_rfl)
      refine if_yes (by kernel_rfl) ?_
      simp [go_sem, h47, h51, eM, eMw, eR]
      exact hK.out _ _ (Below.refl _ _) rfl
    · intro A wx hR hout hdep K hK
      have h45 : A.tmps[45]?.getD undef = .int .u32 (B1 : Int) := hdep 45 (by kernel_rfl)
      have h52 : A.tmps[52]?.getD undef = .int .u32 (M : Int) := hdep 52 (by kernel_rfl)
      refine if_yes (by kernel_rfl) ?_
      simp [go_sem, h45, h52, eM, eMw, eR]
      exact hK.out _ _ (Below.refl _ _) rfl
    · intro A wx hR hout hdep K hK
      have h53 : A.tmps[53]?.getD undef = .int .u32 (R : Int) := hdep 53 (by kernel_rfl)
      refine if_yes (by kernel_rfl) ?_
      simp [go_sem, h53, eM, eMw, eR]
      exact hK.out _ _ (Below.refl _ _) rfl
    simp only [putSl, Act.put, List.setIfInBounds_toArray, List.set_cons_zero, List.set_cons_succ, show f 4 = .int .u32 (R : Int) from hf 4 (by kernel_rfl)]
    have HBE : Hid (Below w.heap.size w wy) := below_tr HB.out hR
    go_wp2
    go_ret
    exact ⟨rfl, HBE.out⟩
end Go.Proofs.YtglkkeelocdanaaDoor
