/- What is proved here: the document's row of a name, of the second kind. -/
import Derived.Test.YtogokbefpgaciaaDoorSp
namespace Go.Proofs.YtogokbefpgaciaaDoor
open Go.RowKit
set_option linter.unusedVariables false
set_option linter.unusedSimpArgs false
set_option maxRecDepth 100000
set_option maxHeartbeats 4000000 in
theorem other31 (n : ByteArray) (w : World) : Calls Tryd.prog 86 #[.string n] w fun e w' => e = .returned (selB n).val ∧ Below w.heap.size w w' := by
  obtain ⟨W, hW, hb, hz, c0, c1, c2, c3, f0, f1, f2, f3⟩ := box4 w (.int .u32 0) (.int .u32 0) (.int .u32 0) (.string ⟨#[]⟩) 71
  have HB : Hid (Below w.heap.size w W) := hb
  have q0 := f0.cell
  have q1 := f1.cell
  have q2 := f2.cell
  have q3 := f3.cell
  have z0 := f0.frozen
  have z1 := f1.frozen
  have z2 := f2.frozen
  have z3 := f3.frozen
  clear hb hz c0 c1 c2 c3
  go_enter Tryd.func86, Tryd.ntmps86
  go_wp2_with fail
  · refine bodyPost_ret (v := .agg #[.int .u32 1, .int .u32 0, .int .u32 0, .string ⟨#[115, 111]⟩]) ?_ rfl ⟨?_, below4 HB.out (Nat.le_refl _) (.int .u32 1) (.int .u32 0) (.int .u32 0) (.string ⟨#[115, 111]⟩)⟩
    · obtain ⟨s0, s1, s2, s3⟩ := res4 W w.heap.size (.int .u32 1) (.int .u32 0) (.int .u32 0) (.string ⟨#[115, 111]⟩) f0 f1 f2 f3
      rw [results_cell1 rfl]; simp [go_sem, s0, s1, s2, s3]
    · simp only [selB, docB, docSel, cond_true, cond_false, *]; rfl
  · refine bodyPost_ret (v := .agg #[.int .u32 1, .int .u32 1, .int .u32 0, .string ⟨#[115, 111]⟩]) ?_ rfl ⟨?_, below4 HB.out (Nat.le_refl _) (.int .u32 1) (.int .u32 1) (.int .u32 0) (.string ⟨#[115, 111]⟩)⟩
    · obtain ⟨s0, s1, s2, s3⟩ := res4 W w.heap.size (.int .u32 1) (.int .u32 1) (.int .u32 0) (.string ⟨#[115, 111]⟩) f0 f1 f2 f3
      rw [results_cell1 rfl]; simp [go_sem, s0, s1, s2, s3]
    · simp only [selB, docB, docSel, cond_true, cond_false, *]; rfl
  · refine bodyPost_ret (v := .agg #[.int .u32 1, .int .u32 16, .int .u32 0, .string ⟨#[115, 111]⟩]) ?_ rfl ⟨?_, below4 HB.out (Nat.le_refl _) (.int .u32 1) (.int .u32 16) (.int .u32 0) (.string ⟨#[115, 111]⟩)⟩
    · obtain ⟨s0, s1, s2, s3⟩ := res4 W w.heap.size (.int .u32 1) (.int .u32 16) (.int .u32 0) (.string ⟨#[115, 111]⟩) f0 f1 f2 f3
      rw [results_cell1 rfl]; simp [go_sem, s0, s1, s2, s3]
    · simp only [selB, docB, docSel, cond_true, cond_false, *]; rfl
  · refine bodyPost_ret (v := .agg #[.int .u32 1, .int .u32 17, .int .u32 0, .string ⟨#[115, 111]⟩]) ?_ rfl ⟨?_, below4 HB.out (Nat.le_refl _) (.int .u32 1) (.int .u32 17) (.int .u32 0) (.string ⟨#[115, 111]⟩)⟩
    · obtain ⟨s0, s1, s2, s3⟩ := res4 W w.heap.size (.int .u32 1) (.int .u32 17) (.int .u32 0) (.string ⟨#[115, 111]⟩) f0 f1 f2 f3
      rw [results_cell1 rfl]; simp [go_sem, s0, s1, s2, s3]
    · simp only [selB, docB, docSel, cond_true, cond_false, *]; rfl
  · refine bodyPost_ret (v := .agg #[.int .u32 2, .int .u32 0, .int .u32 0, .string ⟨#[106]⟩]) ?_ rfl ⟨?_, below4 HB.out (Nat.le_refl _) (.int .u32 2) (.int .u32 0) (.int .u32 0) (.string ⟨#[106]⟩)⟩
    · obtain ⟨s0, s1, s2, s3⟩ := res4 W w.heap.size (.int .u32 2) (.int .u32 0) (.int .u32 0) (.string ⟨#[106]⟩) f0 f1 f2 f3
      rw [results_cell1 rfl]; simp [go_sem, s0, s1, s2, s3]
    · simp only [selB, docB, docSel, cond_true, cond_false, *]; rfl
  · refine bodyPost_ret (v := .agg #[.int .u32 3, .int .u32 0, .int .u32 0, .string ⟨#[106]⟩]) ?_ rfl ⟨?_, below4 HB.out (Nat.le_refl _) (.int .u32 3) (.int .u32 0) (.int .u32 0) (.string ⟨#[106]⟩)⟩
    · obtain ⟨s0, s1, s2, s3⟩ := res4 W w.heap.size (.int .u32 3) (.int .u32 0) (.int .u32 0) (.string ⟨#[106]⟩) f0 f1 f2 f3
      rw [results_cell1 rfl]; simp [go_sem, s0, s1, s2, s3]
    · simp only [selB, docB, docSel, cond_true, cond_false, *]; rfl
  · refine bodyPost_ret (v := .agg #[.int .u32 4, .int .u32 0, .int .u32 0, .string ⟨#[115, 116, 111]⟩]) ?_ rfl ⟨?_, below4 HB.out (Nat.le_refl _) (.int .u32 4) (.int .u32 0) (.int .u32 0) (.string ⟨#[115, 116, 111]⟩)⟩
    · obtain ⟨s0, s1, s2, s3⟩ := res4 W w.heap.size (.int .u32 4) (.int .u32 0) (.int .u32 0) (.string ⟨#[115, 116, 111]⟩) f0 f1 f2 f3
      rw [results_cell1 rfl]; simp [go_sem, s0, s1, s2, s3]
    · simp only [selB, docB, docSel, cond_true, cond_false, *]; rfl
  · refine bodyPost_ret (v := .agg #[.int .u32 5, .int .u32 0, .int .u32 0, .string ⟨#[115, 116, 111]⟩]) ?_ rfl ⟨?_, below4 HB.out (Nat.le_refl _) (.int .u32 5) (.int .u32 0) (.int .u32 0) (.string ⟨#[115, 116, 111]⟩)⟩
    · obtain ⟨s0, s1, s2, s3⟩ := res4 W w.heap.size (.int .u32 5) (.int .u32 0) (.int .u32 0) (.string ⟨#[115, 116, 111]⟩) f0 f1 f2 f3
      rw [results_cell1 rfl]; simp [go_sem, s0, s1, s2, s3]
    · simp only [selB, docB, docSel, cond_true, cond_false, *]; rfl
  · refine bodyPost_ret (v := .agg #[.int .u32 6, .int .u32 0, .int .u32 0, .string ⟨#[115, 111]⟩]) ?_ rfl ⟨?_, below4 HB.out (Nat.le_refl _) (.int .u32 6) (.int .u32 0) (.int .u32 0) (.string ⟨#[115, 111]⟩)⟩
    · obtain ⟨s0, s1, s2, s3⟩ := res4 W w.heap.size (.int .u32 6) (.int .u32 0) (.int .u32 0) (.string ⟨#[115, 111]⟩) f0 f1 f2 f3
      rw [results_cell1 rfl]; simp [go_sem, s0, s1, s2, s3]
    · simp only [selB, docB, docSel, cond_true, cond_false, *]; rfl
  · refine bodyPost_ret (v := .agg #[.int .u32 7, .int .u32 0, .int .u32 0, .string ⟨#[115, 111]⟩]) ?_ rfl ⟨?_, below4 HB.out (Nat.le_refl _) (.int .u32 7) (.int .u32 0) (.int .u32 0) (.string ⟨#[115, 111]⟩)⟩
    · obtain ⟨s0, s1, s2, s3⟩ := res4 W w.heap.size (.int .u32 7) (.int .u32 0) (.int .u32 0) (.string ⟨#[115, 111]⟩) f0 f1 f2 f3
      rw [results_cell1 rfl]; simp [go_sem, s0, s1, s2, s3]
    · simp only [selB, docB, docSel, cond_true, cond_false, *]; rfl
  · refine bodyPost_ret (v := .agg #[.int .u32 8, .int .u32 0, .int .u32 0, .string ⟨#[116, 115, 105]⟩]) ?_ rfl ⟨?_, below4 HB.out (Nat.le_refl _) (.int .u32 8) (.int .u32 0) (.int .u32 0) (.string ⟨#[116, 115, 105]⟩)⟩
    · obtain ⟨s0, s1, s2, s3⟩ := res4 W w.heap.size (.int .u32 8) (.int .u32 0) (.int .u32 0) (.string ⟨#[116, 115, 105]⟩) f0 f1 f2 f3
      rw [results_cell1 rfl]; simp [go_sem, s0, s1, s2, s3]
    · simp only [selB, docB, docSel, cond_true, cond_false, *]; rfl
  · refine bodyPost_ret (v := .agg #[.int .u32 9, .int .u32 0, .int .u32 0, .string ⟨#[116, 115, 105]⟩]) ?_ rfl ⟨?_, below4 HB.out (Nat.le_refl _) (.int .u32 9) (.int .u32 0) (.int .u32 0) (.string ⟨#[116, 115, 105]⟩)⟩
    · obtain ⟨s0, s1, s2, s3⟩ := res4 W w.heap.size (.int .u32 9) (.int .u32 0) (.int .u32 0) (.string ⟨#[116, 115, 105]⟩) f0 f1 f2 f3
      rw [results_cell1 rfl]; simp [go_sem, s0, s1, s2, s3]
    · simp only [selB, docB, docSel, cond_true, cond_false, *]; rfl
  · refine bodyPost_ret (v := .agg #[.int .u32 10, .int .u32 0, .int .u32 0, .string ⟨#[116, 115, 105]⟩]) ?_ rfl ⟨?_, below4 HB.out (Nat.le_refl _) (.int .u32 10) (.int .u32 0) (.int .u32 0) (.string ⟨#[116, 115, 105]⟩)⟩
    · obtain ⟨s0, s1, s2, s3⟩ := res4 W w.heap.size (.int .u32 10) (.int .u32 0) (.int .u32 0) (.string ⟨#[116, 115, 105]⟩) f0 f1 f2 f3
      rw [results_cell1 rfl]; simp [go_sem, s0, s1, s2, s3]
    · simp only [selB, docB, docSel, cond_true, cond_false, *]; rfl
  · refine bodyPost_ret (v := .agg #[.int .u32 11, .int .u32 0, .int .u32 0, .string ⟨#[116, 115, 105]⟩]) ?_ rfl ⟨?_, below4 HB.out (Nat.le_refl _) (.int .u32 11) (.int .u32 0) (.int .u32 0) (.string ⟨#[116, 115, 105]⟩)⟩
    · obtain ⟨s0, s1, s2, s3⟩ := res4 W w.heap.size (.int .u32 11) (.int .u32 0) (.int .u32 0) (.string ⟨#[116, 115, 105]⟩) f0 f1 f2 f3
      rw [results_cell1 rfl]; simp [go_sem, s0, s1, s2, s3]
    · simp only [selB, docB, docSel, cond_true, cond_false, *]; rfl
  · refine bodyPost_ret (v := .agg #[.int .u32 12, .int .u32 0, .int .u32 0, .string ⟨#[116, 115, 105]⟩]) ?_ rfl ⟨?_, below4 HB.out (Nat.le_refl _) (.int .u32 12) (.int .u32 0) (.int .u32 0) (.string ⟨#[116, 115, 105]⟩)⟩
    · obtain ⟨s0, s1, s2, s3⟩ := res4 W w.heap.size (.int .u32 12) (.int .u32 0) (.int .u32 0) (.string ⟨#[116, 115, 105]⟩) f0 f1 f2 f3
      rw [results_cell1 rfl]; simp [go_sem, s0, s1, s2, s3]
    · simp only [selB, docB, docSel, cond_true, cond_false, *]; rfl
  · refine bodyPost_ret (v := .agg #[.int .u32 13, .int .u32 0, .int .u32 0, .string ⟨#[116, 115, 105]⟩]) ?_ rfl ⟨?_, below4 HB.out (Nat.le_refl _) (.int .u32 13) (.int .u32 0) (.int .u32 0) (.string ⟨#[116, 115, 105]⟩)⟩
    · obtain ⟨s0, s1, s2, s3⟩ := res4 W w.heap.size (.int .u32 13) (.int .u32 0) (.int .u32 0) (.string ⟨#[116, 115, 105]⟩) f0 f1 f2 f3
      rw [results_cell1 rfl]; simp [go_sem, s0, s1, s2, s3]
    · simp only [selB, docB, docSel, cond_true, cond_false, *]; rfl
  · refine bodyPost_ret (v := .agg #[.int .u32 14, .int .u32 0, .int .u32 0, .string ⟨#[116, 115, 105]⟩]) ?_ rfl ⟨?_, below4 HB.out (Nat.le_refl _) (.int .u32 14) (.int .u32 0) (.int .u32 0) (.string ⟨#[116, 115, 105]⟩)⟩
    · obtain ⟨s0, s1, s2, s3⟩ := res4 W w.heap.size (.int .u32 14) (.int .u32 0) (.int .u32 0) (.string ⟨#[116, 115, 105]⟩) f0 f1 f2 f3
      rw [results_cell1 rfl]; simp [go_sem, s0, s1, s2, s3]
    · simp only [selB, docB, docSel, cond_true, cond_false, *]; rfl
  · refine bodyPost_ret (v := .agg #[.int .u32 15, .int .u32 0, .int .u32 0, .string ⟨#[116, 105]⟩]) ?_ rfl ⟨?_, below4 HB.out (Nat.le_refl _) (.int .u32 15) (.int .u32 0) (.int .u32 0) (.string ⟨#[116, 105]⟩)⟩
    · obtain ⟨s0, s1, s2, s3⟩ := res4 W w.heap.size (.int .u32 15) (.int .u32 0) (.int .u32 0) (.string ⟨#[116, 105]⟩) f0 f1 f2 f3
      rw [results_cell1 rfl]; simp [go_sem, s0, s1, s2, s3]
    · simp only [selB, docB, docSel, cond_true, cond_false, *]; rfl
  · refine bodyPost_ret (v := .agg #[.int .u32 28, .int .u32 0, .int .u32 0, .string ⟨#[115, 116]⟩]) ?_ rfl ⟨?_, below4 HB.out (Nat.le_refl _) (.int .u32 28) (.int .u32 0) (.int .u32 0) (.string ⟨#[115, 116]⟩)⟩
    · obtain ⟨s0, s1, s2, s3⟩ := res4 W w.heap.size (.int .u32 28) (.int .u32 0) (.int .u32 0) (.string ⟨#[115, 116]⟩) f0 f1 f2 f3
      rw [results_cell1 rfl]; simp [go_sem, s0, s1, s2, s3]
    · simp only [selB, docB, docSel, cond_true, cond_false, *]; rfl
  · refine bodyPost_ret (v := .agg #[.int .u32 28, .int .u32 1, .int .u32 0, .string ⟨#[115, 116]⟩]) ?_ rfl ⟨?_, below4 HB.out (Nat.le_refl _) (.int .u32 28) (.int .u32 1) (.int .u32 0) (.string ⟨#[115, 116]⟩)⟩
    · obtain ⟨s0, s1, s2, s3⟩ := res4 W w.heap.size (.int .u32 28) (.int .u32 1) (.int .u32 0) (.string ⟨#[115, 116]⟩) f0 f1 f2 f3
      rw [results_cell1 rfl]; simp [go_sem, s0, s1, s2, s3]
    · simp only [selB, docB, docSel, cond_true, cond_false, *]; rfl
  · refine bodyPost_ret (v := .agg #[.int .u32 28, .int .u32 2, .int .u32 0, .string ⟨#[100, 115, 116]⟩]) ?_ rfl ⟨?_, below4 HB.out (Nat.le_refl _) (.int .u32 28) (.int .u32 2) (.int .u32 0) (.string ⟨#[100, 115, 116]⟩)⟩
    · obtain ⟨s0, s1, s2, s3⟩ := res4 W w.heap.size (.int .u32 28) (.int .u32 2) (.int .u32 0) (.string ⟨#[100, 115, 116]⟩) f0 f1 f2 f3
      rw [results_cell1 rfl]; simp [go_sem, s0, s1, s2, s3]
    · simp only [selB, docB, docSel, cond_true, cond_false, *]; rfl
  · refine bodyPost_ret (v := .agg #[.int .u32 28, .int .u32 4, .int .u32 0, .string ⟨#[115, 116]⟩]) ?_ rfl ⟨?_, below4 HB.out (Nat.le_refl _) (.int .u32 28) (.int .u32 4) (.int .u32 0) (.string ⟨#[115, 116]⟩)⟩
    · obtain ⟨s0, s1, s2, s3⟩ := res4 W w.heap.size (.int .u32 28) (.int .u32 4) (.int .u32 0) (.string ⟨#[115, 116]⟩) f0 f1 f2 f3
      rw [results_cell1 rfl]; simp [go_sem, s0, s1, s2, s3]
    · simp only [selB, docB, docSel, cond_true, cond_false, *]; rfl
  · refine bodyPost_ret (v := .agg #[.int .u32 28, .int .u32 5, .int .u32 0, .string ⟨#[115, 116]⟩]) ?_ rfl ⟨?_, below4 HB.out (Nat.le_refl _) (.int .u32 28) (.int .u32 5) (.int .u32 0) (.string ⟨#[115, 116]⟩)⟩
    · obtain ⟨s0, s1, s2, s3⟩ := res4 W w.heap.size (.int .u32 28) (.int .u32 5) (.int .u32 0) (.string ⟨#[115, 116]⟩) f0 f1 f2 f3
      rw [results_cell1 rfl]; simp [go_sem, s0, s1, s2, s3]
    · simp only [selB, docB, docSel, cond_true, cond_false, *]; rfl
  · refine bodyPost_ret (v := .agg #[.int .u32 28, .int .u32 32, .int .u32 0, .string ⟨#[100, 115, 100]⟩]) ?_ rfl ⟨?_, below4 HB.out (Nat.le_refl _) (.int .u32 28) (.int .u32 32) (.int .u32 0) (.string ⟨#[100, 115, 100]⟩)⟩
    · obtain ⟨s0, s1, s2, s3⟩ := res4 W w.heap.size (.int .u32 28) (.int .u32 32) (.int .u32 0) (.string ⟨#[100, 115, 100]⟩) f0 f1 f2 f3
      rw [results_cell1 rfl]; simp [go_sem, s0, s1, s2, s3]
    · simp only [selB, docB, docSel, cond_true, cond_false, *]; rfl
  · refine bodyPost_ret (v := .agg #[.int .u32 28, .int .u32 33, .int .u32 0, .string ⟨#[100, 115, 100]⟩]) ?_ rfl ⟨?_, below4 HB.out (Nat.le_refl _) (.int .u32 28) (.int .u32 33) (.int .u32 0) (.string ⟨#[100, 115, 100]⟩)⟩
    · obtain ⟨s0, s1, s2, s3⟩ := res4 W w.heap.size (.int .u32 28) (.int .u32 33) (.int .u32 0) (.string ⟨#[100, 115, 100]⟩) f0 f1 f2 f3
      rw [results_cell1 rfl]; simp [go_sem, s0, s1, s2, s3]
    · simp only [selB, docB, docSel, cond_true, cond_false, *]; rfl
  · refine bodyPost_ret (v := .agg #[.int .u32 31, .int .u32 0, .int .u32 0, .string ⟨#[116, 115, 120]⟩]) ?_ rfl ⟨?_, below4 HB.out (Nat.le_refl _) (.int .u32 31) (.int .u32 0) (.int .u32 0) (.string ⟨#[116, 115, 120]⟩)⟩
    · obtain ⟨s0, s1, s2, s3⟩ := res4 W w.heap.size (.int .u32 31) (.int .u32 0) (.int .u32 0) (.string ⟨#[116, 115, 120]⟩) f0 f1 f2 f3
      rw [results_cell1 rfl]; simp [go_sem, s0, s1, s2, s3]
    · simp only [selB, docB, docSel, cond_true, cond_false, *]; rfl
  · refine bodyPost_ret (v := .agg #[.int .u32 31, .int .u32 4, .int .u32 0, .string ⟨#[116, 115, 120]⟩]) ?_ rfl ⟨?_, below4 HB.out (Nat.le_refl _) (.int .u32 31) (.int .u32 4) (.int .u32 0) (.string ⟨#[116, 115, 120]⟩)⟩
    · obtain ⟨s0, s1, s2, s3⟩ := res4 W w.heap.size (.int .u32 31) (.int .u32 4) (.int .u32 0) (.string ⟨#[116, 115, 120]⟩) f0 f1 f2 f3
      rw [results_cell1 rfl]; simp [go_sem, s0, s1, s2, s3]
    · simp only [selB, docB, docSel, cond_true, cond_false, *]; rfl
  · refine bodyPost_ret (v := .agg #[.int .u32 31, .int .u32 32, .int .u32 2, .string ⟨#[100, 116]⟩]) ?_ rfl ⟨?_, below4 HB.out (Nat.le_refl _) (.int .u32 31) (.int .u32 32) (.int .u32 2) (.string ⟨#[100, 116]⟩)⟩
    · obtain ⟨s0, s1, s2, s3⟩ := res4 W w.heap.size (.int .u32 31) (.int .u32 32) (.int .u32 2) (.string ⟨#[100, 116]⟩) f0 f1 f2 f3
      rw [results_cell1 rfl]; simp [go_sem, s0, s1, s2, s3]
    · simp only [selB, docB, docSel, cond_true, cond_false, *]; rfl
  · refine bodyPost_ret (v := .agg #[.int .u32 31, .int .u32 32, .int .u32 16, .string ⟨#[100, 116]⟩]) ?_ rfl ⟨?_, below4 HB.out (Nat.le_refl _) (.int .u32 31) (.int .u32 32) (.int .u32 16) (.string ⟨#[100, 116]⟩)⟩
    · obtain ⟨s0, s1, s2, s3⟩ := res4 W w.heap.size (.int .u32 31) (.int .u32 32) (.int .u32 16) (.string ⟨#[100, 116]⟩) f0 f1 f2 f3
      rw [results_cell1 rfl]; simp [go_sem, s0, s1, s2, s3]
    · simp only [selB, docB, docSel, cond_true, cond_false, *]; rfl
  · refine bodyPost_ret (v := .agg #[.int .u32 31, .int .u32 32, .int .u32 24, .string ⟨#[100, 116]⟩]) ?_ rfl ⟨?_, below4 HB.out (Nat.le_refl _) (.int .u32 31) (.int .u32 32) (.int .u32 24) (.string ⟨#[100, 116]⟩)⟩
    · obtain ⟨s0, s1, s2, s3⟩ := res4 W w.heap.size (.int .u32 31) (.int .u32 32) (.int .u32 24) (.string ⟨#[100, 116]⟩) f0 f1 f2 f3
      rw [results_cell1 rfl]; simp [go_sem, s0, s1, s2, s3]
    · simp only [selB, docB, docSel, cond_true, cond_false, *]; rfl
  · refine bodyPost_ret (v := .agg #[.int .u32 31, .int .u32 59, .int .u32 0, .string ⟨#[116, 100]⟩]) ?_ rfl ⟨?_, below4 HB.out (Nat.le_refl _) (.int .u32 31) (.int .u32 59) (.int .u32 0) (.string ⟨#[116, 100]⟩)⟩
    · obtain ⟨s0, s1, s2, s3⟩ := res4 W w.heap.size (.int .u32 31) (.int .u32 59) (.int .u32 0) (.string ⟨#[116, 100]⟩) f0 f1 f2 f3
      rw [results_cell1 rfl]; simp [go_sem, s0, s1, s2, s3]
    · simp only [selB, docB, docSel, cond_true, cond_false, *]; rfl
  · have HE : Hid (selB n = selC n) := by show _ = _; simp only [selB, docB, docSel, cond_true, cond_false, *]
    have K := memory36 n W
    generalize selC n = R2 at K HE
    obtain ⟨op, sub, sa, form⟩ := R2
    unfold Dr.val at K
    simp only at K
    refine K.mono ?_
    rintro e w3 ⟨rfl, hb3⟩
    have g0 := f0.keep hb3
    have g1 := f1.keep hb3
    have g2 := f2.keep hb3
    have g3 := f3.keep hb3
    clear q0 q1 q2 q3 z0 z1 z2 z3
    have q0 := g0.cell
    have q1 := g1.cell
    have q2 := g2.cell
    have q3 := g3.cell
    have z0 := g0.frozen
    have z1 := g1.frozen
    have z2 := g2.frozen
    have z3 := g3.frozen
    have HB3 : Hid (Below w.heap.size w w3) := below_tr HB.out hb3
    have HG : Hid _ := res4 w3 w.heap.size (.int .u32 (op : Int)) (.int .u32 (sub : Int)) (.int .u32 (sa : Int)) (.string form) g0 g1 g2 g3
    clear K hb3
    go_wp2
    refine bodyPost_ret (v := .agg #[.int .u32 (op : Int), .int .u32 (sub : Int), .int .u32 (sa : Int), .string form]) ?_ rfl ⟨by rw [HE.out]; rfl, below4 HB3.out (Nat.le_refl _) _ _ _ _⟩
    obtain ⟨s0, s1, s2, s3⟩ := HG.out
    rw [results_cell1 rfl]; simp [go_sem, s0, s1, s2, s3]
end Go.Proofs.YtogokbefpgaciaaDoor
