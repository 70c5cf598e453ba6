/- What is proved here: the chapter's little library. -/
import Derived.Test.YtgdflobcbhnimaaGreatPzb
import Derived.Test.YtgdflobcbhnimaaGreatEDp
import Derived.WalkMore
import Derived.WalkKit
namespace Go.Proofs.YtgdflobcbhnimaaGreat
open Go.RowKit
set_option linter.unusedVariables false
set_option linter.unusedSimpArgs false
set_option maxRecDepth 100000
attribute [local go_sem] Oper.semAt_some
def exL : Lb := ⟨false, 0, 0, [0, 0, 0, 12, 0, 0, 0, 0], [], 0, [], [], [], [], [], [], 0, 0⟩
def exQ : Lv := ⟨.slice none 0 0, .slice none 0 0, .slice none 0 0, .slice none 0 0⟩
theorem exL_text : textP ([] : L8) := ⟨by decide, by simp⟩
theorem exL_fit : FitP exL := { b0 := by decide, b1 := by decide, en := by decide, ini := by decide, c0 := by decide, c1 := by decide, da := by decide, bs := by decide, n0 := by decide, n1 := (fun s hs => by cases hs), so := exL_text, ip := exL_text, y0 := by decide, y1 := by decide, r0 := by decide, r1 := (fun r hr => by cases hr), lo := by decide, g0 := by decide, g1 := by decide }
theorem exQ_is (w : World) : LvIs exL exQ w := ⟨⟨none, 0, rfl, Nat.le_refl _, by decide, fun _ => rfl, fun i h => absurd h (Nat.not_lt_zero _)⟩, ⟨none, 0, rfl, Nat.le_refl _, by decide, fun _ => rfl, fun i h => absurd h (Nat.not_lt_zero _)⟩, ⟨none, 0, rfl, Nat.le_refl _, by decide, fun _ => rfl, fun i h => absurd h (Nat.not_lt_zero _)⟩, ⟨none, 0, rfl, Nat.le_refl _, by decide, fun _ => rfl, fun i h => absurd h (Nat.not_lt_zero _)⟩⟩
theorem exL_bd : exL.Bd := { b := by decide, e := by decide, s := by decide, i := by decide, g0 := by decide, g1 := by decide, y := (fun g hg => by cases hg), r := (fun g hg => by cases hg), l := (fun g hg => by cases hg) }
theorem exL_got : exL.place.got = exL.place.code + 8 + 4096 ∧ exL.place.got < 4294967296 := by decide +kernel
theorem exL_len : exL.file.length ≤ 1000000 := by decide +kernel
theorem exL_segs : exL.lay.head.segs.length = 3 := by decide +kernel
set_option maxHeartbeats 2000000 in
theorem awake8 (w : World) : Calls Tryz.prog 8 #[] w fun e w' => e = .returned (.bool true) ∧ Below w.heap.size w w' := by
  obtain ⟨W1, hW1, b1, n1, s1⟩ := box14 exL exQ w
  have H1 : Hid (Below w.heap.size w W1 ∧ BL exL exQ w.heap.size W1) := ⟨b1, n1⟩
  have K9 : ∀ w', Calls Tryz.prog 9 #[exL.val exQ] w' fun e w'' => e = .returned (.bool true) ∧ Below w'.heap.size w' w'' := fun w' => fit9 exL exQ w' exL_fit (exQ_is w')
  have K13 : Hid (∀ w', Calls Tryz.prog 13 #[.agg #[.bool false, .int .u32 0, .int .u32 0, .string ⟨#[0, 0, 0, 12, 0, 0, 0, 0]⟩, .string ⟨#[]⟩, .int .u32 0, .slice none 0 0, .string ⟨#[]⟩, .string ⟨#[]⟩, .slice none 0 0, .slice none 0 0, .slice none 0 0, .int .i64 0, .int .u32 0]] w' fun e w'' => e = .returned (.string ⟨exL.file.toArray⟩) ∧ Below w'.heap.size w' w'') := fun w' => file13 exL exQ w' exL_fit (exQ_is w') exL_bd (fun w2 _ => K9 w2)
  have K11 : Hid (∀ w', Calls Tryz.prog 11 #[.agg #[.bool false, .int .u32 0, .int .u32 0, .string ⟨#[0, 0, 0, 12, 0, 0, 0, 0]⟩, .string ⟨#[]⟩, .int .u32 0, .slice none 0 0, .string ⟨#[]⟩, .string ⟨#[]⟩, .slice none 0 0, .slice none 0 0, .slice none 0 0, .int .i64 0, .int .u32 0]] w' fun e w'' => e = .returned exL.place.val ∧ Below w'.heap.size w' w'') := fun w' => place11 exL exQ w' exL_fit (exQ_is w') exL_bd (fun w2 _ => K9 w2)
  have K15 : Hid (∀ w', Calls Tryz.prog 15 #[.string ⟨exL.file.toArray⟩] w' fun e w'' => (∃ v, e = .returned (.tuple #[exL.lay.head.val v, .int .i64 0]) ∧ E.OwnG w'.heap.size w'' v exL.lay.head.segs) ∧ Below w'.heap.size w' w'') := fun w' => by
    have h := E.rparse9 exL.file exL_len w'
    obtain ⟨p1, p2⟩ := file_parse exL_fit
    rw [p1, p2] at h
    exact h
  have HW1 : Hid (w.alloc (.cells #[.bool false, .int .u32 0, .int .u32 0, .string ⟨#[0, 0, 0, 12, 0, 0, 0, 0]⟩, .string ⟨#[]⟩, .int .u32 0, .slice none 0 0, .string ⟨#[]⟩, .string ⟨#[]⟩, .slice none 0 0, .slice none 0 0, .slice none 0 0, .int .i64 0, .int .u32 0] 28) = W1) := hW1
  have HC : Hid (∀ w', Below W1.heap.size W1 w' → BL exL exQ w.heap.size w') := fun w' hw => H1.out.2.keep hw
  have c0 : W1.cell? ⟨w.heap.size, 0, none⟩ = some (.bool false) := blk_at n1 0 rfl
  have c1 : W1.cell? ⟨w.heap.size, 1, none⟩ = some (.int .u32 0) := blk_at n1 1 rfl
  have c2 : W1.cell? ⟨w.heap.size, 2, none⟩ = some (.int .u32 0) := blk_at n1 2 rfl
  have c3 : W1.cell? ⟨w.heap.size, 3, none⟩ = some (.string ⟨#[0, 0, 0, 12, 0, 0, 0, 0]⟩) := blk_at n1 3 rfl
  have c4 : W1.cell? ⟨w.heap.size, 4, none⟩ = some (.string ⟨#[]⟩) := blk_at n1 4 rfl
  have c5 : W1.cell? ⟨w.heap.size, 5, none⟩ = some (.int .u32 0) := blk_at n1 5 rfl
  have c6 : W1.cell? ⟨w.heap.size, 6, none⟩ = some (.slice none 0 0) := blk_at n1 6 rfl
  have c7 : W1.cell? ⟨w.heap.size, 7, none⟩ = some (.string ⟨#[]⟩) := blk_at n1 7 rfl
  have c8 : W1.cell? ⟨w.heap.size, 8, none⟩ = some (.string ⟨#[]⟩) := blk_at n1 8 rfl
  have c9 : W1.cell? ⟨w.heap.size, 9, none⟩ = some (.slice none 0 0) := blk_at n1 9 rfl
  have c10 : W1.cell? ⟨w.heap.size, 10, none⟩ = some (.slice none 0 0) := blk_at n1 10 rfl
  have c11 : W1.cell? ⟨w.heap.size, 11, none⟩ = some (.slice none 0 0) := blk_at n1 11 rfl
  have c12 : W1.cell? ⟨w.heap.size, 12, none⟩ = some (.int .i64 0) := blk_at n1 12 rfl
  have c13 : W1.cell? ⟨w.heap.size, 13, none⟩ = some (.int .u32 0) := blk_at n1 13 rfl
  clear hW1 n1 b1 s1 K9
  generalize (⟨exL.file.toArray⟩ : ByteArray) = FB at K13 K15
  unfold E.Ef.val at K15
  generalize exL.lay.head.shared = SH at K15
  generalize exL.lay.head.entry = EN at K15
  unfold Pl.val at K11
  obtain ⟨hg, hgl⟩ := exL_got
  generalize exL.place.got = GOT at K11 hg hgl
  generalize exL.place.code = CO at K11 hg
  generalize exL.place.data = DA at K11
  generalize exL.place.fin = FI at K11
  go_enter Tryz.func8, Tryz.ntmps8
  go_wp2_with fail
  rw [HW1.out]
  refine (K13.out W1).mono ?_
  rintro e w2 ⟨rfl, hb2⟩
  go_wp2_with fail
  refine (K15.out w2).mono ?_
  rintro e w3 ⟨⟨v, rfl, hv⟩, hb3⟩
  obtain ⟨va, vc, rfl⟩ := hv.shape
  rw [exL_segs]
  have H3 : Hid (Below W1.heap.size W1 w3) := below_tr hb2 hb3
  obtain ⟨W4, hW4⟩ : ∃ z, w3.alloc (.cells #[.bool SH, .int .u32 (EN : Int), .slice va 3 vc] 37) = z := ⟨_, rfl⟩
  have b4 : Below w3.heap.size w3 W4 := by rw [← hW4]; exact (Below.refl _ _).alloc (Nat.le_refl _) _
  have m2 : W4.cell? ⟨w3.heap.size, 2, none⟩ = some (.slice va 3 vc) := by rw [← hW4]; exact cell_newA _ _ _ _ _ _ rfl rfl
  have H4 : Hid (Below W1.heap.size W1 W4) := below_tr H3.out b4
  clear c0 c1 c2 c3 c4 c5 c6 c7 c8 c9 c10 c11 c12 c13
  have n4 := HC.out W4 H4.out
  have c0 : W4.cell? ⟨w.heap.size, 0, none⟩ = some (.bool false) := blk_at n4 0 rfl
  have c1 : W4.cell? ⟨w.heap.size, 1, none⟩ = some (.int .u32 0) := blk_at n4 1 rfl
  have c2 : W4.cell? ⟨w.heap.size, 2, none⟩ = some (.int .u32 0) := blk_at n4 2 rfl
  have c3 : W4.cell? ⟨w.heap.size, 3, none⟩ = some (.string ⟨#[0, 0, 0, 12, 0, 0, 0, 0]⟩) := blk_at n4 3 rfl
  have c4 : W4.cell? ⟨w.heap.size, 4, none⟩ = some (.string ⟨#[]⟩) := blk_at n4 4 rfl
  have c5 : W4.cell? ⟨w.heap.size, 5, none⟩ = some (.int .u32 0) := blk_at n4 5 rfl
  have c6 : W4.cell? ⟨w.heap.size, 6, none⟩ = some (.slice none 0 0) := blk_at n4 6 rfl
  have c7 : W4.cell? ⟨w.heap.size, 7, none⟩ = some (.string ⟨#[]⟩) := blk_at n4 7 rfl
  have c8 : W4.cell? ⟨w.heap.size, 8, none⟩ = some (.string ⟨#[]⟩) := blk_at n4 8 rfl
  have c9 : W4.cell? ⟨w.heap.size, 9, none⟩ = some (.slice none 0 0) := blk_at n4 9 rfl
  have c10 : W4.cell? ⟨w.heap.size, 10, none⟩ = some (.slice none 0 0) := blk_at n4 10 rfl
  have c11 : W4.cell? ⟨w.heap.size, 11, none⟩ = some (.slice none 0 0) := blk_at n4 11 rfl
  have c12 : W4.cell? ⟨w.heap.size, 12, none⟩ = some (.int .i64 0) := blk_at n4 12 rfl
  have c13 : W4.cell? ⟨w.heap.size, 13, none⟩ = some (.int .u32 0) := blk_at n4 13 rfl
  clear n4 hb2 hb3 b4 hv
  go_wp2_with fail
  refine (K11.out W4).mono ?_
  rintro e w5 ⟨rfl, hb5⟩
  have H5 : Hid (Below W1.heap.size W1 w5) := below_tr H4.out hb5
  replace m2 := keep_cell hb5 m2
  obtain ⟨W6, hW6⟩ : ∃ z, w5.alloc (.cells #[.int .u32 (CO : Int), .int .u32 (GOT : Int), .int .u32 (DA : Int), .int .u32 (FI : Int)] 32) = z := ⟨_, rfl⟩
  have b6 : Below w5.heap.size w5 W6 := by rw [← hW6]; exact (Below.refl _ _).alloc (Nat.le_refl _) _
  have p0 : W6.cell? ⟨w5.heap.size, 0, none⟩ = some (.int .u32 (CO : Int)) := by rw [← hW6]; exact cell_newA _ _ _ _ _ _ rfl rfl
  have p1 : W6.cell? ⟨w5.heap.size, 1, none⟩ = some (.int .u32 (GOT : Int)) := by rw [← hW6]; exact cell_newA _ _ _ _ _ _ rfl rfl
  replace m2 := keep_cell b6 m2
  have H6 : Hid (Below w.heap.size w W6) := below_tr H1.out.1 (below_tr H5.out b6)
  obtain ⟨A8, hA8⟩ : ∃ z, z = CO + 8 := ⟨_, rfl⟩
  have a1 : (CO : Int) + 8 = (A8 : Int) := by omega
  have a2 : (A8 : Int) + 4096 = (GOT : Int) := by omega
  have a3 : (A8 : Int) % 4294967296 = (A8 : Int) := by omega
  have a4 : (GOT : Int) % 4294967296 = (GOT : Int) := by omega
  clear hb5 b6 hA8 hg hgl c0 c1 c2 c3 c4 c5 c6 c7 c8 c9 c10 c11 c12 c13 hW4
  go_wp2
  go_ret
  exact ⟨rfl, H6.out⟩
end Go.Proofs.YtgdflobcbhnimaaGreat
