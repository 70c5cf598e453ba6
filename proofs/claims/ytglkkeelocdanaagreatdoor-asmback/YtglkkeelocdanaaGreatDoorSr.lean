/- What is proved here: the document's row of a name. -/
import Derived.Test.YtglkkeelocdanaaGreatDoorFn
namespace Go.Proofs.YtglkkeelocdanaaGreatDoor
open Go.RowKit
set_option linter.unusedVariables false
set_option linter.unusedSimpArgs false
set_option maxRecDepth 100000
/-- The document's row: an operation, a function or second number, sa, a form. -/
structure Dr where
  op : Nat
  sub : Nat
  sa : Nat
  form : ByteArray
def Dr.val (r : Dr) : Value := .agg #[.int .u32 (r.op : Int), .int .u32 (r.sub : Int), .int .u32 (r.sa : Int), .string r.form]
def zeroD : Dr := ⟨0, 0, 0, ⟨#[]⟩⟩
/-- The first of that name. -/
def docSel : List (List UInt8 × Dr) → List UInt8 → Dr → Dr
  | [], _, d => d
  | (n, r) :: l, m, d => bif m == n then r else docSel l m d
def docA : List (List UInt8 × Dr) := [([115, 108, 108], ⟨0, 0, 0, ⟨#[100, 116, 97]⟩⟩),
  ([115, 114, 108], ⟨0, 2, 0, ⟨#[100, 116, 97]⟩⟩),
  ([115, 114, 97], ⟨0, 3, 0, ⟨#[100, 116, 97]⟩⟩),
  ([115, 108, 108, 118], ⟨0, 4, 0, ⟨#[100, 116, 115]⟩⟩),
  ([115, 114, 108, 118], ⟨0, 6, 0, ⟨#[100, 116, 115]⟩⟩),
  ([115, 114, 97, 118], ⟨0, 7, 0, ⟨#[100, 116, 115]⟩⟩),
  ([106, 114], ⟨0, 8, 0, ⟨#[115]⟩⟩),
  ([106, 97, 108, 114], ⟨0, 9, 0, ⟨#[100, 115]⟩⟩),
  ([109, 111, 118, 122], ⟨0, 10, 0, ⟨#[100, 115, 116]⟩⟩),
  ([109, 111, 118, 110], ⟨0, 11, 0, ⟨#[100, 115, 116]⟩⟩),
  ([115, 121, 115, 99, 97, 108, 108], ⟨0, 12, 0, ⟨#[99]⟩⟩),
  ([98, 114, 101, 97, 107], ⟨0, 13, 0, ⟨#[99]⟩⟩),
  ([109, 102, 104, 105], ⟨0, 16, 0, ⟨#[100]⟩⟩),
  ([109, 116, 104, 105], ⟨0, 17, 0, ⟨#[115]⟩⟩),
  ([109, 102, 108, 111], ⟨0, 18, 0, ⟨#[100]⟩⟩),
  ([109, 116, 108, 111], ⟨0, 19, 0, ⟨#[115]⟩⟩),
  ([109, 117, 108, 116], ⟨0, 24, 0, ⟨#[115, 116]⟩⟩),
  ([109, 117, 108, 116, 117], ⟨0, 25, 0, ⟨#[115, 116]⟩⟩),
  ([100, 105, 118], ⟨0, 26, 0, ⟨#[115, 116]⟩⟩),
  ([100, 105, 118, 117], ⟨0, 27, 0, ⟨#[115, 116]⟩⟩),
  ([97, 100, 100], ⟨0, 32, 0, ⟨#[100, 115, 116]⟩⟩),
  ([97, 100, 100, 117], ⟨0, 33, 0, ⟨#[100, 115, 116]⟩⟩),
  ([115, 117, 98], ⟨0, 34, 0, ⟨#[100, 115, 116]⟩⟩),
  ([115, 117, 98, 117], ⟨0, 35, 0, ⟨#[100, 115, 116]⟩⟩),
  ([97, 110, 100], ⟨0, 36, 0, ⟨#[100, 115, 116]⟩⟩),
  ([111, 114], ⟨0, 37, 0, ⟨#[100, 115, 116]⟩⟩),
  ([120, 111, 114], ⟨0, 38, 0, ⟨#[100, 115, 116]⟩⟩),
  ([110, 111, 114], ⟨0, 39, 0, ⟨#[100, 115, 116]⟩⟩),
  ([115, 108, 116], ⟨0, 42, 0, ⟨#[100, 115, 116]⟩⟩),
  ([115, 108, 116, 117], ⟨0, 43, 0, ⟨#[100, 115, 116]⟩⟩),
  ([116, 103, 101], ⟨0, 48, 0, ⟨#[115, 116]⟩⟩),
  ([116, 103, 101, 117], ⟨0, 49, 0, ⟨#[115, 116]⟩⟩),
  ([116, 108, 116], ⟨0, 50, 0, ⟨#[115, 116]⟩⟩),
  ([116, 108, 116, 117], ⟨0, 51, 0, ⟨#[115, 116]⟩⟩),
  ([116, 101, 113], ⟨0, 52, 0, ⟨#[115, 116]⟩⟩),
  ([116, 110, 101], ⟨0, 54, 0, ⟨#[115, 116]⟩⟩)]
def docB : List (List UInt8 × Dr) := [([98, 108, 116, 122], ⟨1, 0, 0, ⟨#[115, 111]⟩⟩),
  ([98, 103, 101, 122], ⟨1, 1, 0, ⟨#[115, 111]⟩⟩),
  ([98, 108, 116, 122, 97, 108], ⟨1, 16, 0, ⟨#[115, 111]⟩⟩),
  ([98, 103, 101, 122, 97, 108], ⟨1, 17, 0, ⟨#[115, 111]⟩⟩),
  ([106], ⟨2, 0, 0, ⟨#[106]⟩⟩),
  ([106, 97, 108], ⟨3, 0, 0, ⟨#[106]⟩⟩),
  ([98, 101, 113], ⟨4, 0, 0, ⟨#[115, 116, 111]⟩⟩),
  ([98, 110, 101], ⟨5, 0, 0, ⟨#[115, 116, 111]⟩⟩),
  ([98, 108, 101, 122], ⟨6, 0, 0, ⟨#[115, 111]⟩⟩),
  ([98, 103, 116, 122], ⟨7, 0, 0, ⟨#[115, 111]⟩⟩),
  ([97, 100, 100, 105], ⟨8, 0, 0, ⟨#[116, 115, 105]⟩⟩),
  ([97, 100, 100, 105, 117], ⟨9, 0, 0, ⟨#[116, 115, 105]⟩⟩),
  ([115, 108, 116, 105], ⟨10, 0, 0, ⟨#[116, 115, 105]⟩⟩),
  ([115, 108, 116, 105, 117], ⟨11, 0, 0, ⟨#[116, 115, 105]⟩⟩),
  ([97, 110, 100, 105], ⟨12, 0, 0, ⟨#[116, 115, 105]⟩⟩),
  ([111, 114, 105], ⟨13, 0, 0, ⟨#[116, 115, 105]⟩⟩),
  ([120, 111, 114, 105], ⟨14, 0, 0, ⟨#[116, 115, 105]⟩⟩),
  ([108, 117, 105], ⟨15, 0, 0, ⟨#[116, 105]⟩⟩),
  ([109, 97, 100, 100], ⟨28, 0, 0, ⟨#[115, 116]⟩⟩),
  ([109, 97, 100, 100, 117], ⟨28, 1, 0, ⟨#[115, 116]⟩⟩),
  ([109, 117, 108], ⟨28, 2, 0, ⟨#[100, 115, 116]⟩⟩),
  ([109, 115, 117, 98], ⟨28, 4, 0, ⟨#[115, 116]⟩⟩),
  ([109, 115, 117, 98, 117], ⟨28, 5, 0, ⟨#[115, 116]⟩⟩),
  ([99, 108, 122], ⟨28, 32, 0, ⟨#[100, 115, 100]⟩⟩),
  ([99, 108, 111], ⟨28, 33, 0, ⟨#[100, 115, 100]⟩⟩),
  ([101, 120, 116], ⟨31, 0, 0, ⟨#[116, 115, 120]⟩⟩),
  ([105, 110, 115], ⟨31, 4, 0, ⟨#[116, 115, 120]⟩⟩),
  ([119, 115, 98, 104], ⟨31, 32, 2, ⟨#[100, 116]⟩⟩),
  ([115, 101, 98], ⟨31, 32, 16, ⟨#[100, 116]⟩⟩),
  ([115, 101, 104], ⟨31, 32, 24, ⟨#[100, 116]⟩⟩),
  ([114, 100, 104, 119, 114], ⟨31, 59, 0, ⟨#[116, 100]⟩⟩)]
def docC : List (List UInt8 × Dr) := [([114, 111, 116, 114], ⟨0, 2, 0, ⟨#[100, 116, 114]⟩⟩),
  ([114, 111, 116, 114, 118], ⟨0, 6, 0, ⟨#[100, 116, 118]⟩⟩),
  ([108, 98], ⟨32, 0, 0, ⟨#[116, 109]⟩⟩),
  ([108, 104], ⟨33, 0, 0, ⟨#[116, 109]⟩⟩),
  ([108, 119, 108], ⟨34, 0, 0, ⟨#[116, 109]⟩⟩),
  ([108, 119], ⟨35, 0, 0, ⟨#[116, 109]⟩⟩),
  ([108, 98, 117], ⟨36, 0, 0, ⟨#[116, 109]⟩⟩),
  ([108, 104, 117], ⟨37, 0, 0, ⟨#[116, 109]⟩⟩),
  ([108, 119, 114], ⟨38, 0, 0, ⟨#[116, 109]⟩⟩),
  ([115, 98], ⟨40, 0, 0, ⟨#[116, 109]⟩⟩),
  ([115, 104], ⟨41, 0, 0, ⟨#[116, 109]⟩⟩),
  ([115, 119, 108], ⟨42, 0, 0, ⟨#[116, 109]⟩⟩),
  ([115, 119], ⟨43, 0, 0, ⟨#[116, 109]⟩⟩),
  ([115, 119, 114], ⟨46, 0, 0, ⟨#[116, 109]⟩⟩),
  ([108, 108], ⟨48, 0, 0, ⟨#[116, 109]⟩⟩),
  ([115, 99], ⟨56, 0, 0, ⟨#[116, 109]⟩⟩)]
def selC (n : ByteArray) : Dr := docSel docC n.toList zeroD
def selB (n : ByteArray) : Dr := docSel docB n.toList (selC n)
def selA (n : ByteArray) : Dr := docSel docA n.toList (selB n)
set_option maxHeartbeats 4000000 in
theorem memory36 (n : ByteArray) (w : World) : Calls Tryz.prog 92 #[.string n] w fun e w' => e = .returned (selC n).val ∧ Below w.heap.size w w' := by
  obtain ⟨W, hW, hb, hz, c0, c1, c2, c3, f0, f1, f2, f3⟩ := box4 w (.int .u32 0) (.int .u32 0) (.int .u32 0) (.string ⟨#[]⟩) 72
  have HB : Hid (Below w.heap.size w W) := hb
  have q0 := f0.cell
  have q1 := f1.cell
  have q2 := f2.cell
  have q3 := f3.cell
  have z0 := f0.frozen
  have z1 := f1.frozen
  have z2 := f2.frozen
  have z3 := f3.frozen
  clear hb hz c0 c1 c2 c3
  go_enter Tryz.func92, Tryz.ntmps92
  go_wp2_with fail
  · refine bodyPost_ret (v := .agg #[.int .u32 0, .int .u32 2, .int .u32 0, .string ⟨#[100, 116, 114]⟩]) ?_ rfl ⟨?_, below4 HB.out (Nat.le_refl _) (.int .u32 0) (.int .u32 2) (.int .u32 0) (.string ⟨#[100, 116, 114]⟩)⟩
    · obtain ⟨s0, s1, s2, s3⟩ := res4 W w.heap.size (.int .u32 0) (.int .u32 2) (.int .u32 0) (.string ⟨#[100, 116, 114]⟩) f0 f1 f2 f3
      rw [results_cell1 rfl]; simp [go_sem, s0, s1, s2, s3]
    · simp only [selC, docC, docSel, cond_true, cond_false, *]; rfl
  · refine bodyPost_ret (v := .agg #[.int .u32 0, .int .u32 6, .int .u32 0, .string ⟨#[100, 116, 118]⟩]) ?_ rfl ⟨?_, below4 HB.out (Nat.le_refl _) (.int .u32 0) (.int .u32 6) (.int .u32 0) (.string ⟨#[100, 116, 118]⟩)⟩
    · obtain ⟨s0, s1, s2, s3⟩ := res4 W w.heap.size (.int .u32 0) (.int .u32 6) (.int .u32 0) (.string ⟨#[100, 116, 118]⟩) f0 f1 f2 f3
      rw [results_cell1 rfl]; simp [go_sem, s0, s1, s2, s3]
    · simp only [selC, docC, docSel, cond_true, cond_false, *]; rfl
  · refine bodyPost_ret (v := .agg #[.int .u32 32, .int .u32 0, .int .u32 0, .string ⟨#[116, 109]⟩]) ?_ rfl ⟨?_, below4 HB.out (Nat.le_refl _) (.int .u32 32) (.int .u32 0) (.int .u32 0) (.string ⟨#[116, 109]⟩)⟩
    · obtain ⟨s0, s1, s2, s3⟩ := res4 W w.heap.size (.int .u32 32) (.int .u32 0) (.int .u32 0) (.string ⟨#[116, 109]⟩) f0 f1 f2 f3
      rw [results_cell1 rfl]; simp [go_sem, s0, s1, s2, s3]
    · simp only [selC, docC, docSel, cond_true, cond_false, *]; rfl
  · refine bodyPost_ret (v := .agg #[.int .u32 33, .int .u32 0, .int .u32 0, .string ⟨#[116, 109]⟩]) ?_ rfl ⟨?_, below4 HB.out (Nat.le_refl _) (.int .u32 33) (.int .u32 0) (.int .u32 0) (.string ⟨#[116, 109]⟩)⟩
    · obtain ⟨s0, s1, s2, s3⟩ := res4 W w.heap.size (.int .u32 33) (.int .u32 0) (.int .u32 0) (.string ⟨#[116, 109]⟩) f0 f1 f2 f3
      rw [results_cell1 rfl]; simp [go_sem, s0, s1, s2, s3]
    · simp only [selC, docC, docSel, cond_true, cond_false, *]; rfl
  · refine bodyPost_ret (v := .agg #[.int .u32 34, .int .u32 0, .int .u32 0, .string ⟨#[116, 109]⟩]) ?_ rfl ⟨?_, below4 HB.out (Nat.le_refl _) (.int .u32 34) (.int .u32 0) (.int .u32 0) (.string ⟨#[116, 109]⟩)⟩
    · obtain ⟨s0, s1, s2, s3⟩ := res4 W w.heap.size (.int .u32 34) (.int .u32 0) (.int .u32 0) (.string ⟨#[116, 109]⟩) f0 f1 f2 f3
      rw [results_cell1 rfl]; simp [go_sem, s0, s1, s2, s3]
    · simp only [selC, docC, docSel, cond_true, cond_false, *]; rfl
  · refine bodyPost_ret (v := .agg #[.int .u32 35, .int .u32 0, .int .u32 0, .string ⟨#[116, 109]⟩]) ?_ rfl ⟨?_, below4 HB.out (Nat.le_refl _) (.int .u32 35) (.int .u32 0) (.int .u32 0) (.string ⟨#[116, 109]⟩)⟩
    · obtain ⟨s0, s1, s2, s3⟩ := res4 W w.heap.size (.int .u32 35) (.int .u32 0) (.int .u32 0) (.string ⟨#[116, 109]⟩) f0 f1 f2 f3
      rw [results_cell1 rfl]; simp [go_sem, s0, s1, s2, s3]
    · simp only [selC, docC, docSel, cond_true, cond_false, *]; rfl
  · refine bodyPost_ret (v := .agg #[.int .u32 36, .int .u32 0, .int .u32 0, .string ⟨#[116, 109]⟩]) ?_ rfl ⟨?_, below4 HB.out (Nat.le_refl _) (.int .u32 36) (.int .u32 0) (.int .u32 0) (.string ⟨#[116, 109]⟩)⟩
    · obtain ⟨s0, s1, s2, s3⟩ := res4 W w.heap.size (.int .u32 36) (.int .u32 0) (.int .u32 0) (.string ⟨#[116, 109]⟩) f0 f1 f2 f3
      rw [results_cell1 rfl]; simp [go_sem, s0, s1, s2, s3]
    · simp only [selC, docC, docSel, cond_true, cond_false, *]; rfl
  · refine bodyPost_ret (v := .agg #[.int .u32 37, .int .u32 0, .int .u32 0, .string ⟨#[116, 109]⟩]) ?_ rfl ⟨?_, below4 HB.out (Nat.le_refl _) (.int .u32 37) (.int .u32 0) (.int .u32 0) (.string ⟨#[116, 109]⟩)⟩
    · obtain ⟨s0, s1, s2, s3⟩ := res4 W w.heap.size (.int .u32 37) (.int .u32 0) (.int .u32 0) (.string ⟨#[116, 109]⟩) f0 f1 f2 f3
      rw [results_cell1 rfl]; simp [go_sem, s0, s1, s2, s3]
    · simp only [selC, docC, docSel, cond_true, cond_false, *]; rfl
  · refine bodyPost_ret (v := .agg #[.int .u32 38, .int .u32 0, .int .u32 0, .string ⟨#[116, 109]⟩]) ?_ rfl ⟨?_, below4 HB.out (Nat.le_refl _) (.int .u32 38) (.int .u32 0) (.int .u32 0) (.string ⟨#[116, 109]⟩)⟩
    · obtain ⟨s0, s1, s2, s3⟩ := res4 W w.heap.size (.int .u32 38) (.int .u32 0) (.int .u32 0) (.string ⟨#[116, 109]⟩) f0 f1 f2 f3
      rw [results_cell1 rfl]; simp [go_sem, s0, s1, s2, s3]
    · simp only [selC, docC, docSel, cond_true, cond_false, *]; rfl
  · refine bodyPost_ret (v := .agg #[.int .u32 40, .int .u32 0, .int .u32 0, .string ⟨#[116, 109]⟩]) ?_ rfl ⟨?_, below4 HB.out (Nat.le_refl _) (.int .u32 40) (.int .u32 0) (.int .u32 0) (.string ⟨#[116, 109]⟩)⟩
    · obtain ⟨s0, s1, s2, s3⟩ := res4 W w.heap.size (.int .u32 40) (.int .u32 0) (.int .u32 0) (.string ⟨#[116, 109]⟩) f0 f1 f2 f3
      rw [results_cell1 rfl]; simp [go_sem, s0, s1, s2, s3]
    · simp only [selC, docC, docSel, cond_true, cond_false, *]; rfl
  · refine bodyPost_ret (v := .agg #[.int .u32 41, .int .u32 0, .int .u32 0, .string ⟨#[116, 109]⟩]) ?_ rfl ⟨?_, below4 HB.out (Nat.le_refl _) (.int .u32 41) (.int .u32 0) (.int .u32 0) (.string ⟨#[116, 109]⟩)⟩
    · obtain ⟨s0, s1, s2, s3⟩ := res4 W w.heap.size (.int .u32 41) (.int .u32 0) (.int .u32 0) (.string ⟨#[116, 109]⟩) f0 f1 f2 f3
      rw [results_cell1 rfl]; simp [go_sem, s0, s1, s2, s3]
    · simp only [selC, docC, docSel, cond_true, cond_false, *]; rfl
  · refine bodyPost_ret (v := .agg #[.int .u32 42, .int .u32 0, .int .u32 0, .string ⟨#[116, 109]⟩]) ?_ rfl ⟨?_, below4 HB.out (Nat.le_refl _) (.int .u32 42) (.int .u32 0) (.int .u32 0) (.string ⟨#[116, 109]⟩)⟩
    · obtain ⟨s0, s1, s2, s3⟩ := res4 W w.heap.size (.int .u32 42) (.int .u32 0) (.int .u32 0) (.string ⟨#[116, 109]⟩) f0 f1 f2 f3
      rw [results_cell1 rfl]; simp [go_sem, s0, s1, s2, s3]
    · simp only [selC, docC, docSel, cond_true, cond_false, *]; rfl
  · refine bodyPost_ret (v := .agg #[.int .u32 43, .int .u32 0, .int .u32 0, .string ⟨#[116, 109]⟩]) ?_ rfl ⟨?_, below4 HB.out (Nat.le_refl _) (.int .u32 43) (.int .u32 0) (.int .u32 0) (.string ⟨#[116, 109]⟩)⟩
    · obtain ⟨s0, s1, s2, s3⟩ := res4 W w.heap.size (.int .u32 43) (.int .u32 0) (.int .u32 0) (.string ⟨#[116, 109]⟩) f0 f1 f2 f3
      rw [results_cell1 rfl]; simp [go_sem, s0, s1, s2, s3]
    · simp only [selC, docC, docSel, cond_true, cond_false, *]; rfl
  · refine bodyPost_ret (v := .agg #[.int .u32 46, .int .u32 0, .int .u32 0, .string ⟨#[116, 109]⟩]) ?_ rfl ⟨?_, below4 HB.out (Nat.le_refl _) (.int .u32 46) (.int .u32 0) (.int .u32 0) (.string ⟨#[116, 109]⟩)⟩
    · obtain ⟨s0, s1, s2, s3⟩ := res4 W w.heap.size (.int .u32 46) (.int .u32 0) (.int .u32 0) (.string ⟨#[116, 109]⟩) f0 f1 f2 f3
      rw [results_cell1 rfl]; simp [go_sem, s0, s1, s2, s3]
    · simp only [selC, docC, docSel, cond_true, cond_false, *]; rfl
  · refine bodyPost_ret (v := .agg #[.int .u32 48, .int .u32 0, .int .u32 0, .string ⟨#[116, 109]⟩]) ?_ rfl ⟨?_, below4 HB.out (Nat.le_refl _) (.int .u32 48) (.int .u32 0) (.int .u32 0) (.string ⟨#[116, 109]⟩)⟩
    · obtain ⟨s0, s1, s2, s3⟩ := res4 W w.heap.size (.int .u32 48) (.int .u32 0) (.int .u32 0) (.string ⟨#[116, 109]⟩) f0 f1 f2 f3
      rw [results_cell1 rfl]; simp [go_sem, s0, s1, s2, s3]
    · simp only [selC, docC, docSel, cond_true, cond_false, *]; rfl
  · refine bodyPost_ret (v := .agg #[.int .u32 56, .int .u32 0, .int .u32 0, .string ⟨#[116, 109]⟩]) ?_ rfl ⟨?_, below4 HB.out (Nat.le_refl _) (.int .u32 56) (.int .u32 0) (.int .u32 0) (.string ⟨#[116, 109]⟩)⟩
    · obtain ⟨s0, s1, s2, s3⟩ := res4 W w.heap.size (.int .u32 56) (.int .u32 0) (.int .u32 0) (.string ⟨#[116, 109]⟩) f0 f1 f2 f3
      rw [results_cell1 rfl]; simp [go_sem, s0, s1, s2, s3]
    · simp only [selC, docC, docSel, cond_true, cond_false, *]; rfl
  · refine bodyPost_ret (v := .agg #[.int .u32 0, .int .u32 0, .int .u32 0, .string ⟨#[]⟩]) ?_ rfl ⟨?_, below4 HB.out (Nat.le_refl _) (.int .u32 0) (.int .u32 0) (.int .u32 0) (.string ⟨#[]⟩)⟩
    · obtain ⟨s0, s1, s2, s3⟩ := res4 W w.heap.size (.int .u32 0) (.int .u32 0) (.int .u32 0) (.string ⟨#[]⟩) f0 f1 f2 f3
      rw [results_cell1 rfl]; simp [go_sem, s0, s1, s2, s3]
    · simp only [selC, docC, docSel, cond_true, cond_false, *]; rfl
end Go.Proofs.YtglkkeelocdanaaGreatDoor
namespace Go.Proofs.YtglkkeelocdanaaGreatDoor
open Go.RowKit
set_option linter.unusedVariables false
set_option linter.unusedSimpArgs false
set_option maxRecDepth 100000
set_option maxHeartbeats 4000000 in
theorem other31 (n : ByteArray) (w : World) : Calls Tryz.prog 74 #[.string n] w fun e w' => e = .returned (selB n).val ∧ Below w.heap.size w w' := by
  obtain ⟨W, hW, hb, hz, c0, c1, c2, c3, f0, f1, f2, f3⟩ := box4 w (.int .u32 0) (.int .u32 0) (.int .u32 0) (.string ⟨#[]⟩) 72
  have HB : Hid (Below w.heap.size w W) := hb
  have q0 := f0.cell
  have q1 := f1.cell
  have q2 := f2.cell
  have q3 := f3.cell
  have z0 := f0.frozen
  have z1 := f1.frozen
  have z2 := f2.frozen
  have z3 := f3.frozen
  clear hb hz c0 c1 c2 c3
  go_enter Tryz.func74, Tryz.ntmps74
  go_wp2_with fail
  · refine bodyPost_ret (v := .agg #[.int .u32 1, .int .u32 0, .int .u32 0, .string ⟨#[115, 111]⟩]) ?_ rfl ⟨?_, below4 HB.out (Nat.le_refl _) (.int .u32 1) (.int .u32 0) (.int .u32 0) (.string ⟨#[115, 111]⟩)⟩
    · obtain ⟨s0, s1, s2, s3⟩ := res4 W w.heap.size (.int .u32 1) (.int .u32 0) (.int .u32 0) (.string ⟨#[115, 111]⟩) f0 f1 f2 f3
      rw [results_cell1 rfl]; simp [go_sem, s0, s1, s2, s3]
    · simp only [selB, docB, docSel, cond_true, cond_false, *]; rfl
  · refine bodyPost_ret (v := .agg #[.int .u32 1, .int .u32 1, .int .u32 0, .string ⟨#[115, 111]⟩]) ?_ rfl ⟨?_, below4 HB.out (Nat.le_refl _) (.int .u32 1) (.int .u32 1) (.int .u32 0) (.string ⟨#[115, 111]⟩)⟩
    · obtain ⟨s0, s1, s2, s3⟩ := res4 W w.heap.size (.int .u32 1) (.int .u32 1) (.int .u32 0) (.string ⟨#[115, 111]⟩) f0 f1 f2 f3
      rw [results_cell1 rfl]; simp [go_sem, s0, s1, s2, s3]
    · simp only [selB, docB, docSel, cond_true, cond_false, *]; rfl
  · refine bodyPost_ret (v := .agg #[.int .u32 1, .int .u32 16, .int .u32 0, .string ⟨#[115, 111]⟩]) ?_ rfl ⟨?_, below4 HB.out (Nat.le_refl _) (.int .u32 1) (.int .u32 16) (.int .u32 0) (.string ⟨#[115, 111]⟩)⟩
    · obtain ⟨s0, s1, s2, s3⟩ := res4 W w.heap.size (.int .u32 1) (.int .u32 16) (.int .u32 0) (.string ⟨#[115, 111]⟩) f0 f1 f2 f3
      rw [results_cell1 rfl]; simp [go_sem, s0, s1, s2, s3]
    · simp only [selB, docB, docSel, cond_true, cond_false, *]; rfl
  · refine bodyPost_ret (v := .agg #[.int .u32 1, .int .u32 17, .int .u32 0, .string ⟨#[115, 111]⟩]) ?_ rfl ⟨?_, below4 HB.out (Nat.le_refl _) (.int .u32 1) (.int .u32 17) (.int .u32 0) (.string ⟨#[115, 111]⟩)⟩
    · obtain ⟨s0, s1, s2, s3⟩ := res4 W w.heap.size (.int .u32 1) (.int .u32 17) (.int .u32 0) (.string ⟨#[115, 111]⟩) f0 f1 f2 f3
      rw [results_cell1 rfl]; simp [go_sem, s0, s1, s2, s3]
    · simp only [selB, docB, docSel, cond_true, cond_false, *]; rfl
  · refine bodyPost_ret (v := .agg #[.int .u32 2, .int .u32 0, .int .u32 0, .string ⟨#[106]⟩]) ?_ rfl ⟨?_, below4 HB.out (Nat.le_refl _) (.int .u32 2) (.int .u32 0) (.int .u32 0) (.string ⟨#[106]⟩)⟩
    · obtain ⟨s0, s1, s2, s3⟩ := res4 W w.heap.size (.int .u32 2) (.int .u32 0) (.int .u32 0) (.string ⟨#[106]⟩) f0 f1 f2 f3
      rw [results_cell1 rfl]; simp [go_sem, s0, s1, s2, s3]
    · simp only [selB, docB, docSel, cond_true, cond_false, *]; rfl
  · refine bodyPost_ret (v := .agg #[.int .u32 3, .int .u32 0, .int .u32 0, .string ⟨#[106]⟩]) ?_ rfl ⟨?_, below4 HB.out (Nat.le_refl _) (.int .u32 3) (.int .u32 0) (.int .u32 0) (.string ⟨#[106]⟩)⟩
    · obtain ⟨s0, s1, s2, s3⟩ := res4 W w.heap.size (.int .u32 3) (.int .u32 0) (.int .u32 0) (.string ⟨#[106]⟩) f0 f1 f2 f3
      rw [results_cell1 rfl]; simp [go_sem, s0, s1, s2, s3]
    · simp only [selB, docB, docSel, cond_true, cond_false, *]; rfl
  · refine bodyPost_ret (v := .agg #[.int .u32 4, .int .u32 0, .int .u32 0, .string ⟨#[115, 116, 111]⟩]) ?_ rfl ⟨?_, below4 HB.out (Nat.le_refl _) (.int .u32 4) (.int .u32 0) (.int .u32 0) (.string ⟨#[115, 116, 111]⟩)⟩
    · obtain ⟨s0, s1, s2, s3⟩ := res4 W w.heap.size (.int .u32 4) (.int .u32 0) (.int .u32 0) (.string ⟨#[115, 116, 111]⟩) f0 f1 f2 f3
      rw [results_cell1 rfl]; simp [go_sem, s0, s1, s2, s3]
    · simp only [selB, docB, docSel, cond_true, cond_false, *]; rfl
  · refine bodyPost_ret (v := .agg #[.int .u32 5, .int .u32 0, .int .u32 0, .string ⟨#[115, 116, 111]⟩]) ?_ rfl ⟨?_, below4 HB.out (Nat.le_refl _) (.int .u32 5) (.int .u32 0) (.int .u32 0) (.string ⟨#[115, 116, 111]⟩)⟩
    · obtain ⟨s0, s1, s2, s3⟩ := res4 W w.heap.size (.int .u32 5) (.int .u32 0) (.int .u32 0) (.string ⟨#[115, 116, 111]⟩) f0 f1 f2 f3
      rw [results_cell1 rfl]; simp [go_sem, s0, s1, s2, s3]
    · simp only [selB, docB, docSel, cond_true, cond_false, *]; rfl
  · refine bodyPost_ret (v := .agg #[.int .u32 6, .int .u32 0, .int .u32 0, .string ⟨#[115, 111]⟩]) ?_ rfl ⟨?_, below4 HB.out (Nat.le_refl _) (.int .u32 6) (.int .u32 0) (.int .u32 0) (.string ⟨#[115, 111]⟩)⟩
    · obtain ⟨s0, s1, s2, s3⟩ := res4 W w.heap.size (.int .u32 6) (.int .u32 0) (.int .u32 0) (.string ⟨#[115, 111]⟩) f0 f1 f2 f3
      rw [results_cell1 rfl]; simp [go_sem, s0, s1, s2, s3]
    · simp only [selB, docB, docSel, cond_true, cond_false, *]; rfl
  · refine bodyPost_ret (v := .agg #[.int .u32 7, .int .u32 0, .int .u32 0, .string ⟨#[115, 111]⟩]) ?_ rfl ⟨?_, below4 HB.out (Nat.le_refl _) (.int .u32 7) (.int .u32 0) (.int .u32 0) (.string ⟨#[115, 111]⟩)⟩
    · obtain ⟨s0, s1, s2, s3⟩ := res4 W w.heap.size (.int .u32 7) (.int .u32 0) (.int .u32 0) (.string ⟨#[115, 111]⟩) f0 f1 f2 f3
      rw [results_cell1 rfl]; simp [go_sem, s0, s1, s2, s3]
    · simp only [selB, docB, docSel, cond_true, cond_false, *]; rfl
  · refine bodyPost_ret (v := .agg #[.int .u32 8, .int .u32 0, .int .u32 0, .string ⟨#[116, 115, 105]⟩]) ?_ rfl ⟨?_, below4 HB.out (Nat.le_refl _) (.int .u32 8) (.int .u32 0) (.int .u32 0) (.string ⟨#[116, 115, 105]⟩)⟩
    · obtain ⟨s0, s1, s2, s3⟩ := res4 W w.heap.size (.int .u32 8) (.int .u32 0) (.int .u32 0) (.string ⟨#[116, 115, 105]⟩) f0 f1 f2 f3
      rw [results_cell1 rfl]; simp [go_sem, s0, s1, s2, s3]
    · simp only [selB, docB, docSel, cond_true, cond_false, *]; rfl
  · refine bodyPost_ret (v := .agg #[.int .u32 9, .int .u32 0, .int .u32 0, .string ⟨#[116, 115, 105]⟩]) ?_ rfl ⟨?_, below4 HB.out (Nat.le_refl _) (.int .u32 9) (.int .u32 0) (.int .u32 0) (.string ⟨#[116, 115, 105]⟩)⟩
    · obtain ⟨s0, s1, s2, s3⟩ := res4 W w.heap.size (.int .u32 9) (.int .u32 0) (.int .u32 0) (.string ⟨#[116, 115, 105]⟩) f0 f1 f2 f3
      rw [results_cell1 rfl]; simp [go_sem, s0, s1, s2, s3]
    · simp only [selB, docB, docSel, cond_true, cond_false, *]; rfl
  · refine bodyPost_ret (v := .agg #[.int .u32 10, .int .u32 0, .int .u32 0, .string ⟨#[116, 115, 105]⟩]) ?_ rfl ⟨?_, below4 HB.out (Nat.le_refl _) (.int .u32 10) (.int .u32 0) (.int .u32 0) (.string ⟨#[116, 115, 105]⟩)⟩
    · obtain ⟨s0, s1, s2, s3⟩ := res4 W w.heap.size (.int .u32 10) (.int .u32 0) (.int .u32 0) (.string ⟨#[116, 115, 105]⟩) f0 f1 f2 f3
      rw [results_cell1 rfl]; simp [go_sem, s0, s1, s2, s3]
    · simp only [selB, docB, docSel, cond_true, cond_false, *]; rfl
  · refine bodyPost_ret (v := .agg #[.int .u32 11, .int .u32 0, .int .u32 0, .string ⟨#[116, 115, 105]⟩]) ?_ rfl ⟨?_, below4 HB.out (Nat.le_refl _) (.int .u32 11) (.int .u32 0) (.int .u32 0) (.string ⟨#[116, 115, 105]⟩)⟩
    · obtain ⟨s0, s1, s2, s3⟩ := res4 W w.heap.size (.int .u32 11) (.int .u32 0) (.int .u32 0) (.string ⟨#[116, 115, 105]⟩) f0 f1 f2 f3
      rw [results_cell1 rfl]; simp [go_sem, s0, s1, s2, s3]
    · simp only [selB, docB, docSel, cond_true, cond_false, *]; rfl
  · refine bodyPost_ret (v := .agg #[.int .u32 12, .int .u32 0, .int .u32 0, .string ⟨#[116, 115, 105]⟩]) ?_ rfl ⟨?_, below4 HB.out (Nat.le_refl _) (.int .u32 12) (.int .u32 0) (.int .u32 0) (.string ⟨#[116, 115, 105]⟩)⟩
    · obtain ⟨s0, s1, s2, s3⟩ := res4 W w.heap.size (.int .u32 12) (.int .u32 0) (.int .u32 0) (.string ⟨#[116, 115, 105]⟩) f0 f1 f2 f3
      rw [results_cell1 rfl]; simp [go_sem, s0, s1, s2, s3]
    · simp only [selB, docB, docSel, cond_true, cond_false, *]; rfl
  · refine bodyPost_ret (v := .agg #[.int .u32 13, .int .u32 0, .int .u32 0, .string ⟨#[116, 115, 105]⟩]) ?_ rfl ⟨?_, below4 HB.out (Nat.le_refl _) (.int .u32 13) (.int .u32 0) (.int .u32 0) (.string ⟨#[116, 115, 105]⟩)⟩
    · obtain ⟨s0, s1, s2, s3⟩ := res4 W w.heap.size (.int .u32 13) (.int .u32 0) (.int .u32 0) (.string ⟨#[116, 115, 105]⟩) f0 f1 f2 f3
      rw [results_cell1 rfl]; simp [go_sem, s0, s1, s2, s3]
    · simp only [selB, docB, docSel, cond_true, cond_false, *]; rfl
  · refine bodyPost_ret (v := .agg #[.int .u32 14, .int .u32 0, .int .u32 0, .string ⟨#[116, 115, 105]⟩]) ?_ rfl ⟨?_, below4 HB.out (Nat.le_refl _) (.int .u32 14) (.int .u32 0) (.int .u32 0) (.string ⟨#[116, 115, 105]⟩)⟩
    · obtain ⟨s0, s1, s2, s3⟩ := res4 W w.heap.size (.int .u32 14) (.int .u32 0) (.int .u32 0) (.string ⟨#[116, 115, 105]⟩) f0 f1 f2 f3
      rw [results_cell1 rfl]; simp [go_sem, s0, s1, s2, s3]
    · simp only [selB, docB, docSel, cond_true, cond_false, *]; rfl
  · refine bodyPost_ret (v := .agg #[.int .u32 15, .int .u32 0, .int .u32 0, .string ⟨#[116, 105]⟩]) ?_ rfl ⟨?_, below4 HB.out (Nat.le_refl _) (.int .u32 15) (.int .u32 0) (.int .u32 0) (.string ⟨#[116, 105]⟩)⟩
    · obtain ⟨s0, s1, s2, s3⟩ := res4 W w.heap.size (.int .u32 15) (.int .u32 0) (.int .u32 0) (.string ⟨#[116, 105]⟩) f0 f1 f2 f3
      rw [results_cell1 rfl]; simp [go_sem, s0, s1, s2, s3]
    · simp only [selB, docB, docSel, cond_true, cond_false, *]; rfl
  · refine bodyPost_ret (v := .agg #[.int .u32 28, .int .u32 0, .int .u32 0, .string ⟨#[115, 116]⟩]) ?_ rfl ⟨?_, below4 HB.out (Nat.le_refl _) (.int .u32 28) (.int .u32 0) (.int .u32 0) (.string ⟨#[115, 116]⟩)⟩
    · obtain ⟨s0, s1, s2, s3⟩ := res4 W w.heap.size (.int .u32 28) (.int .u32 0) (.int .u32 0) (.string ⟨#[115, 116]⟩) f0 f1 f2 f3
      rw [results_cell1 rfl]; simp [go_sem, s0, s1, s2, s3]
    · simp only [selB, docB, docSel, cond_true, cond_false, *]; rfl
  · refine bodyPost_ret (v := .agg #[.int .u32 28, .int .u32 1, .int .u32 0, .string ⟨#[115, 116]⟩]) ?_ rfl ⟨?_, below4 HB.out (Nat.le_refl _) (.int .u32 28) (.int .u32 1) (.int .u32 0) (.string ⟨#[115, 116]⟩)⟩
    · obtain ⟨s0, s1, s2, s3⟩ := res4 W w.heap.size (.int .u32 28) (.int .u32 1) (.int .u32 0) (.string ⟨#[115, 116]⟩) f0 f1 f2 f3
      rw [results_cell1 rfl]; simp [go_sem, s0, s1, s2, s3]
    · simp only [selB, docB, docSel, cond_true, cond_false, *]; rfl
  · refine bodyPost_ret (v := .agg #[.int .u32 28, .int .u32 2, .int .u32 0, .string ⟨#[100, 115, 116]⟩]) ?_ rfl ⟨?_, below4 HB.out (Nat.le_refl _) (.int .u32 28) (.int .u32 2) (.int .u32 0) (.string ⟨#[100, 115, 116]⟩)⟩
    · obtain ⟨s0, s1, s2, s3⟩ := res4 W w.heap.size (.int .u32 28) (.int .u32 2) (.int .u32 0) (.string ⟨#[100, 115, 116]⟩) f0 f1 f2 f3
      rw [results_cell1 rfl]; simp [go_sem, s0, s1, s2, s3]
    · simp only [selB, docB, docSel, cond_true, cond_false, *]; rfl
  · refine bodyPost_ret (v := .agg #[.int .u32 28, .int .u32 4, .int .u32 0, .string ⟨#[115, 116]⟩]) ?_ rfl ⟨?_, below4 HB.out (Nat.le_refl _) (.int .u32 28) (.int .u32 4) (.int .u32 0) (.string ⟨#[115, 116]⟩)⟩
    · obtain ⟨s0, s1, s2, s3⟩ := res4 W w.heap.size (.int .u32 28) (.int .u32 4) (.int .u32 0) (.string ⟨#[115, 116]⟩) f0 f1 f2 f3
      rw [results_cell1 rfl]; simp [go_sem, s0, s1, s2, s3]
    · simp only [selB, docB, docSel, cond_true, cond_false, *]; rfl
  · refine bodyPost_ret (v := .agg #[.int .u32 28, .int .u32 5, .int .u32 0, .string ⟨#[115, 116]⟩]) ?_ rfl ⟨?_, below4 HB.out (Nat.le_refl _) (.int .u32 28) (.int .u32 5) (.int .u32 0) (.string ⟨#[115, 116]⟩)⟩
    · obtain ⟨s0, s1, s2, s3⟩ := res4 W w.heap.size (.int .u32 28) (.int .u32 5) (.int .u32 0) (.string ⟨#[115, 116]⟩) f0 f1 f2 f3
      rw [results_cell1 rfl]; simp [go_sem, s0, s1, s2, s3]
    · simp only [selB, docB, docSel, cond_true, cond_false, *]; rfl
  · refine bodyPost_ret (v := .agg #[.int .u32 28, .int .u32 32, .int .u32 0, .string ⟨#[100, 115, 100]⟩]) ?_ rfl ⟨?_, below4 HB.out (Nat.le_refl _) (.int .u32 28) (.int .u32 32) (.int .u32 0) (.string ⟨#[100, 115, 100]⟩)⟩
    · obtain ⟨s0, s1, s2, s3⟩ := res4 W w.heap.size (.int .u32 28) (.int .u32 32) (.int .u32 0) (.string ⟨#[100, 115, 100]⟩) f0 f1 f2 f3
      rw [results_cell1 rfl]; simp [go_sem, s0, s1, s2, s3]
    · simp only [selB, docB, docSel, cond_true, cond_false, *]; rfl
  · refine bodyPost_ret (v := .agg #[.int .u32 28, .int .u32 33, .int .u32 0, .string ⟨#[100, 115, 100]⟩]) ?_ rfl ⟨?_, below4 HB.out (Nat.le_refl _) (.int .u32 28) (.int .u32 33) (.int .u32 0) (.string ⟨#[100, 115, 100]⟩)⟩
    · obtain ⟨s0, s1, s2, s3⟩ := res4 W w.heap.size (.int .u32 28) (.int .u32 33) (.int .u32 0) (.string ⟨#[100, 115, 100]⟩) f0 f1 f2 f3
      rw [results_cell1 rfl]; simp [go_sem, s0, s1, s2, s3]
    · simp only [selB, docB, docSel, cond_true, cond_false, *]; rfl
  · refine bodyPost_ret (v := .agg #[.int .u32 31, .int .u32 0, .int .u32 0, .string ⟨#[116, 115, 120]⟩]) ?_ rfl ⟨?_, below4 HB.out (Nat.le_refl _) (.int .u32 31) (.int .u32 0) (.int .u32 0) (.string ⟨#[116, 115, 120]⟩)⟩
    · obtain ⟨s0, s1, s2, s3⟩ := res4 W w.heap.size (.int .u32 31) (.int .u32 0) (.int .u32 0) (.string ⟨#[116, 115, 120]⟩) f0 f1 f2 f3
      rw [results_cell1 rfl]; simp [go_sem, s0, s1, s2, s3]
    · simp only [selB, docB, docSel, cond_true, cond_false, *]; rfl
  · refine bodyPost_ret (v := .agg #[.int .u32 31, .int .u32 4, .int .u32 0, .string ⟨#[116, 115, 120]⟩]) ?_ rfl ⟨?_, below4 HB.out (Nat.le_refl _) (.int .u32 31) (.int .u32 4) (.int .u32 0) (.string ⟨#[116, 115, 120]⟩)⟩
    · obtain ⟨s0, s1, s2, s3⟩ := res4 W w.heap.size (.int .u32 31) (.int .u32 4) (.int .u32 0) (.string ⟨#[116, 115, 120]⟩) f0 f1 f2 f3
      rw [results_cell1 rfl]; simp [go_sem, s0, s1, s2, s3]
    · simp only [selB, docB, docSel, cond_true, cond_false, *]; rfl
  · refine bodyPost_ret (v := .agg #[.int .u32 31, .int .u32 32, .int .u32 2, .string ⟨#[100, 116]⟩]) ?_ rfl ⟨?_, below4 HB.out (Nat.le_refl _) (.int .u32 31) (.int .u32 32) (.int .u32 2) (.string ⟨#[100, 116]⟩)⟩
    · obtain ⟨s0, s1, s2, s3⟩ := res4 W w.heap.size (.int .u32 31) (.int .u32 32) (.int .u32 2) (.string ⟨#[100, 116]⟩) f0 f1 f2 f3
      rw [results_cell1 rfl]; simp [go_sem, s0, s1, s2, s3]
    · simp only [selB, docB, docSel, cond_true, cond_false, *]; rfl
  · refine bodyPost_ret (v := .agg #[.int .u32 31, .int .u32 32, .int .u32 16, .string ⟨#[100, 116]⟩]) ?_ rfl ⟨?_, below4 HB.out (Nat.le_refl _) (.int .u32 31) (.int .u32 32) (.int .u32 16) (.string ⟨#[100, 116]⟩)⟩
    · obtain ⟨s0, s1, s2, s3⟩ := res4 W w.heap.size (.int .u32 31) (.int .u32 32) (.int .u32 16) (.string ⟨#[100, 116]⟩) f0 f1 f2 f3
      rw [results_cell1 rfl]; simp [go_sem, s0, s1, s2, s3]
    · simp only [selB, docB, docSel, cond_true, cond_false, *]; rfl
  · refine bodyPost_ret (v := .agg #[.int .u32 31, .int .u32 32, .int .u32 24, .string ⟨#[100, 116]⟩]) ?_ rfl ⟨?_, below4 HB.out (Nat.le_refl _) (.int .u32 31) (.int .u32 32) (.int .u32 24) (.string ⟨#[100, 116]⟩)⟩
    · obtain ⟨s0, s1, s2, s3⟩ := res4 W w.heap.size (.int .u32 31) (.int .u32 32) (.int .u32 24) (.string ⟨#[100, 116]⟩) f0 f1 f2 f3
      rw [results_cell1 rfl]; simp [go_sem, s0, s1, s2, s3]
    · simp only [selB, docB, docSel, cond_true, cond_false, *]; rfl
  · refine bodyPost_ret (v := .agg #[.int .u32 31, .int .u32 59, .int .u32 0, .string ⟨#[116, 100]⟩]) ?_ rfl ⟨?_, below4 HB.out (Nat.le_refl _) (.int .u32 31) (.int .u32 59) (.int .u32 0) (.string ⟨#[116, 100]⟩)⟩
    · obtain ⟨s0, s1, s2, s3⟩ := res4 W w.heap.size (.int .u32 31) (.int .u32 59) (.int .u32 0) (.string ⟨#[116, 100]⟩) f0 f1 f2 f3
      rw [results_cell1 rfl]; simp [go_sem, s0, s1, s2, s3]
    · simp only [selB, docB, docSel, cond_true, cond_false, *]; rfl
  · have HE : Hid (selB n = selC n) := by show _ = _; simp only [selB, docB, docSel, cond_true, cond_false, *]
    have K := memory36 n W
    generalize selC n = R2 at K HE
    obtain ⟨op, sub, sa, form⟩ := R2
    unfold Dr.val at K
    simp only at K
    refine K.mono ?_
    rintro e w3 ⟨rfl, hb3⟩
    have g0 := f0.keep hb3
    have g1 := f1.keep hb3
    have g2 := f2.keep hb3
    have g3 := f3.keep hb3
    clear q0 q1 q2 q3 z0 z1 z2 z3
    have q0 := g0.cell
    have q1 := g1.cell
    have q2 := g2.cell
    have q3 := g3.cell
    have z0 := g0.frozen
    have z1 := g1.frozen
    have z2 := g2.frozen
    have z3 := g3.frozen
    have HB3 : Hid (Below w.heap.size w w3) := below_tr HB.out hb3
    have HG : Hid _ := res4 w3 w.heap.size (.int .u32 (op : Int)) (.int .u32 (sub : Int)) (.int .u32 (sa : Int)) (.string form) g0 g1 g2 g3
    clear K hb3
    go_wp2
    refine bodyPost_ret (v := .agg #[.int .u32 (op : Int), .int .u32 (sub : Int), .int .u32 (sa : Int), .string form]) ?_ rfl ⟨by rw [HE.out]; rfl, below4 HB3.out (Nat.le_refl _) _ _ _ _⟩
    obtain ⟨s0, s1, s2, s3⟩ := HG.out
    rw [results_cell1 rfl]; simp [go_sem, s0, s1, s2, s3]
end Go.Proofs.YtglkkeelocdanaaGreatDoor
namespace Go.Proofs.YtglkkeelocdanaaGreatDoor
open Go.RowKit
set_option linter.unusedVariables false
set_option linter.unusedSimpArgs false
set_option maxRecDepth 100000
set_option maxHeartbeats 4000000 in
theorem special22 (n : ByteArray) (w : World) : Calls Tryz.prog 40 #[.string n] w fun e w' => e = .returned (selA n).val ∧ Below w.heap.size w w' := by
  obtain ⟨W, hW, hb, hz, c0, c1, c2, c3, f0, f1, f2, f3⟩ := box4 w (.int .u32 0) (.int .u32 0) (.int .u32 0) (.string ⟨#[]⟩) 72
  have HB : Hid (Below w.heap.size w W) := hb
  have q0 := f0.cell
  have q1 := f1.cell
  have q2 := f2.cell
  have q3 := f3.cell
  have z0 := f0.frozen
  have z1 := f1.frozen
  have z2 := f2.frozen
  have z3 := f3.frozen
  clear hb hz c0 c1 c2 c3
  go_enter Tryz.func40, Tryz.ntmps40
  go_wp2_with fail
  · refine bodyPost_ret (v := .agg #[.int .u32 0, .int .u32 0, .int .u32 0, .string ⟨#[100, 116, 97]⟩]) ?_ rfl ⟨?_, below4 HB.out (Nat.le_refl _) (.int .u32 0) (.int .u32 0) (.int .u32 0) (.string ⟨#[100, 116, 97]⟩)⟩
    · obtain ⟨s0, s1, s2, s3⟩ := res4 W w.heap.size (.int .u32 0) (.int .u32 0) (.int .u32 0) (.string ⟨#[100, 116, 97]⟩) f0 f1 f2 f3
      rw [results_cell1 rfl]; simp [go_sem, s0, s1, s2, s3]
    · simp only [selA, docA, docSel, cond_true, cond_false, *]; rfl
  · refine bodyPost_ret (v := .agg #[.int .u32 0, .int .u32 2, .int .u32 0, .string ⟨#[100, 116, 97]⟩]) ?_ rfl ⟨?_, below4 HB.out (Nat.le_refl _) (.int .u32 0) (.int .u32 2) (.int .u32 0) (.string ⟨#[100, 116, 97]⟩)⟩
    · obtain ⟨s0, s1, s2, s3⟩ := res4 W w.heap.size (.int .u32 0) (.int .u32 2) (.int .u32 0) (.string ⟨#[100, 116, 97]⟩) f0 f1 f2 f3
      rw [results_cell1 rfl]; simp [go_sem, s0, s1, s2, s3]
    · simp only [selA, docA, docSel, cond_true, cond_false, *]; rfl
  · refine bodyPost_ret (v := .agg #[.int .u32 0, .int .u32 3, .int .u32 0, .string ⟨#[100, 116, 97]⟩]) ?_ rfl ⟨?_, below4 HB.out (Nat.le_refl _) (.int .u32 0) (.int .u32 3) (.int .u32 0) (.string ⟨#[100, 116, 97]⟩)⟩
    · obtain ⟨s0, s1, s2, s3⟩ := res4 W w.heap.size (.int .u32 0) (.int .u32 3) (.int .u32 0) (.string ⟨#[100, 116, 97]⟩) f0 f1 f2 f3
      rw [results_cell1 rfl]; simp [go_sem, s0, s1, s2, s3]
    · simp only [selA, docA, docSel, cond_true, cond_false, *]; rfl
  · refine bodyPost_ret (v := .agg #[.int .u32 0, .int .u32 4, .int .u32 0, .string ⟨#[100, 116, 115]⟩]) ?_ rfl ⟨?_, below4 HB.out (Nat.le_refl _) (.int .u32 0) (.int .u32 4) (.int .u32 0) (.string ⟨#[100, 116, 115]⟩)⟩
    · obtain ⟨s0, s1, s2, s3⟩ := res4 W w.heap.size (.int .u32 0) (.int .u32 4) (.int .u32 0) (.string ⟨#[100, 116, 115]⟩) f0 f1 f2 f3
      rw [results_cell1 rfl]; simp [go_sem, s0, s1, s2, s3]
    · simp only [selA, docA, docSel, cond_true, cond_false, *]; rfl
  · refine bodyPost_ret (v := .agg #[.int .u32 0, .int .u32 6, .int .u32 0, .string ⟨#[100, 116, 115]⟩]) ?_ rfl ⟨?_, below4 HB.out (Nat.le_refl _) (.int .u32 0) (.int .u32 6) (.int .u32 0) (.string ⟨#[100, 116, 115]⟩)⟩
    · obtain ⟨s0, s1, s2, s3⟩ := res4 W w.heap.size (.int .u32 0) (.int .u32 6) (.int .u32 0) (.string ⟨#[100, 116, 115]⟩) f0 f1 f2 f3
      rw [results_cell1 rfl]; simp [go_sem, s0, s1, s2, s3]
    · simp only [selA, docA, docSel, cond_true, cond_false, *]; rfl
  · refine bodyPost_ret (v := .agg #[.int .u32 0, .int .u32 7, .int .u32 0, .string ⟨#[100, 116, 115]⟩]) ?_ rfl ⟨?_, below4 HB.out (Nat.le_refl _) (.int .u32 0) (.int .u32 7) (.int .u32 0) (.string ⟨#[100, 116, 115]⟩)⟩
    · obtain ⟨s0, s1, s2, s3⟩ := res4 W w.heap.size (.int .u32 0) (.int .u32 7) (.int .u32 0) (.string ⟨#[100, 116, 115]⟩) f0 f1 f2 f3
      rw [results_cell1 rfl]; simp [go_sem, s0, s1, s2, s3]
    · simp only [selA, docA, docSel, cond_true, cond_false, *]; rfl
  · refine bodyPost_ret (v := .agg #[.int .u32 0, .int .u32 8, .int .u32 0, .string ⟨#[115]⟩]) ?_ rfl ⟨?_, below4 HB.out (Nat.le_refl _) (.int .u32 0) (.int .u32 8) (.int .u32 0) (.string ⟨#[115]⟩)⟩
    · obtain ⟨s0, s1, s2, s3⟩ := res4 W w.heap.size (.int .u32 0) (.int .u32 8) (.int .u32 0) (.string ⟨#[115]⟩) f0 f1 f2 f3
      rw [results_cell1 rfl]; simp [go_sem, s0, s1, s2, s3]
    · simp only [selA, docA, docSel, cond_true, cond_false, *]; rfl
  · refine bodyPost_ret (v := .agg #[.int .u32 0, .int .u32 9, .int .u32 0, .string ⟨#[100, 115]⟩]) ?_ rfl ⟨?_, below4 HB.out (Nat.le_refl _) (.int .u32 0) (.int .u32 9) (.int .u32 0) (.string ⟨#[100, 115]⟩)⟩
    · obtain ⟨s0, s1, s2, s3⟩ := res4 W w.heap.size (.int .u32 0) (.int .u32 9) (.int .u32 0) (.string ⟨#[100, 115]⟩) f0 f1 f2 f3
      rw [results_cell1 rfl]; simp [go_sem, s0, s1, s2, s3]
    · simp only [selA, docA, docSel, cond_true, cond_false, *]; rfl
  · refine bodyPost_ret (v := .agg #[.int .u32 0, .int .u32 10, .int .u32 0, .string ⟨#[100, 115, 116]⟩]) ?_ rfl ⟨?_, below4 HB.out (Nat.le_refl _) (.int .u32 0) (.int .u32 10) (.int .u32 0) (.string ⟨#[100, 115, 116]⟩)⟩
    · obtain ⟨s0, s1, s2, s3⟩ := res4 W w.heap.size (.int .u32 0) (.int .u32 10) (.int .u32 0) (.string ⟨#[100, 115, 116]⟩) f0 f1 f2 f3
      rw [results_cell1 rfl]; simp [go_sem, s0, s1, s2, s3]
    · simp only [selA, docA, docSel, cond_true, cond_false, *]; rfl
  · refine bodyPost_ret (v := .agg #[.int .u32 0, .int .u32 11, .int .u32 0, .string ⟨#[100, 115, 116]⟩]) ?_ rfl ⟨?_, below4 HB.out (Nat.le_refl _) (.int .u32 0) (.int .u32 11) (.int .u32 0) (.string ⟨#[100, 115, 116]⟩)⟩
    · obtain ⟨s0, s1, s2, s3⟩ := res4 W w.heap.size (.int .u32 0) (.int .u32 11) (.int .u32 0) (.string ⟨#[100, 115, 116]⟩) f0 f1 f2 f3
      rw [results_cell1 rfl]; simp [go_sem, s0, s1, s2, s3]
    · simp only [selA, docA, docSel, cond_true, cond_false, *]; rfl
  · refine bodyPost_ret (v := .agg #[.int .u32 0, .int .u32 12, .int .u32 0, .string ⟨#[99]⟩]) ?_ rfl ⟨?_, below4 HB.out (Nat.le_refl _) (.int .u32 0) (.int .u32 12) (.int .u32 0) (.string ⟨#[99]⟩)⟩
    · obtain ⟨s0, s1, s2, s3⟩ := res4 W w.heap.size (.int .u32 0) (.int .u32 12) (.int .u32 0) (.string ⟨#[99]⟩) f0 f1 f2 f3
      rw [results_cell1 rfl]; simp [go_sem, s0, s1, s2, s3]
    · simp only [selA, docA, docSel, cond_true, cond_false, *]; rfl
  · refine bodyPost_ret (v := .agg #[.int .u32 0, .int .u32 13, .int .u32 0, .string ⟨#[99]⟩]) ?_ rfl ⟨?_, below4 HB.out (Nat.le_refl _) (.int .u32 0) (.int .u32 13) (.int .u32 0) (.string ⟨#[99]⟩)⟩
    · obtain ⟨s0, s1, s2, s3⟩ := res4 W w.heap.size (.int .u32 0) (.int .u32 13) (.int .u32 0) (.string ⟨#[99]⟩) f0 f1 f2 f3
      rw [results_cell1 rfl]; simp [go_sem, s0, s1, s2, s3]
    · simp only [selA, docA, docSel, cond_true, cond_false, *]; rfl
  · refine bodyPost_ret (v := .agg #[.int .u32 0, .int .u32 16, .int .u32 0, .string ⟨#[100]⟩]) ?_ rfl ⟨?_, below4 HB.out (Nat.le_refl _) (.int .u32 0) (.int .u32 16) (.int .u32 0) (.string ⟨#[100]⟩)⟩
    · obtain ⟨s0, s1, s2, s3⟩ := res4 W w.heap.size (.int .u32 0) (.int .u32 16) (.int .u32 0) (.string ⟨#[100]⟩) f0 f1 f2 f3
      rw [results_cell1 rfl]; simp [go_sem, s0, s1, s2, s3]
    · simp only [selA, docA, docSel, cond_true, cond_false, *]; rfl
  · refine bodyPost_ret (v := .agg #[.int .u32 0, .int .u32 17, .int .u32 0, .string ⟨#[115]⟩]) ?_ rfl ⟨?_, below4 HB.out (Nat.le_refl _) (.int .u32 0) (.int .u32 17) (.int .u32 0) (.string ⟨#[115]⟩)⟩
    · obtain ⟨s0, s1, s2, s3⟩ := res4 W w.heap.size (.int .u32 0) (.int .u32 17) (.int .u32 0) (.string ⟨#[115]⟩) f0 f1 f2 f3
      rw [results_cell1 rfl]; simp [go_sem, s0, s1, s2, s3]
    · simp only [selA, docA, docSel, cond_true, cond_false, *]; rfl
  · refine bodyPost_ret (v := .agg #[.int .u32 0, .int .u32 18, .int .u32 0, .string ⟨#[100]⟩]) ?_ rfl ⟨?_, below4 HB.out (Nat.le_refl _) (.int .u32 0) (.int .u32 18) (.int .u32 0) (.string ⟨#[100]⟩)⟩
    · obtain ⟨s0, s1, s2, s3⟩ := res4 W w.heap.size (.int .u32 0) (.int .u32 18) (.int .u32 0) (.string ⟨#[100]⟩) f0 f1 f2 f3
      rw [results_cell1 rfl]; simp [go_sem, s0, s1, s2, s3]
    · simp only [selA, docA, docSel, cond_true, cond_false, *]; rfl
  · refine bodyPost_ret (v := .agg #[.int .u32 0, .int .u32 19, .int .u32 0, .string ⟨#[115]⟩]) ?_ rfl ⟨?_, below4 HB.out (Nat.le_refl _) (.int .u32 0) (.int .u32 19) (.int .u32 0) (.string ⟨#[115]⟩)⟩
    · obtain ⟨s0, s1, s2, s3⟩ := res4 W w.heap.size (.int .u32 0) (.int .u32 19) (.int .u32 0) (.string ⟨#[115]⟩) f0 f1 f2 f3
      rw [results_cell1 rfl]; simp [go_sem, s0, s1, s2, s3]
    · simp only [selA, docA, docSel, cond_true, cond_false, *]; rfl
  · refine bodyPost_ret (v := .agg #[.int .u32 0, .int .u32 24, .int .u32 0, .string ⟨#[115, 116]⟩]) ?_ rfl ⟨?_, below4 HB.out (Nat.le_refl _) (.int .u32 0) (.int .u32 24) (.int .u32 0) (.string ⟨#[115, 116]⟩)⟩
    · obtain ⟨s0, s1, s2, s3⟩ := res4 W w.heap.size (.int .u32 0) (.int .u32 24) (.int .u32 0) (.string ⟨#[115, 116]⟩) f0 f1 f2 f3
      rw [results_cell1 rfl]; simp [go_sem, s0, s1, s2, s3]
    · simp only [selA, docA, docSel, cond_true, cond_false, *]; rfl
  · refine bodyPost_ret (v := .agg #[.int .u32 0, .int .u32 25, .int .u32 0, .string ⟨#[115, 116]⟩]) ?_ rfl ⟨?_, below4 HB.out (Nat.le_refl _) (.int .u32 0) (.int .u32 25) (.int .u32 0) (.string ⟨#[115, 116]⟩)⟩
    · obtain ⟨s0, s1, s2, s3⟩ := res4 W w.heap.size (.int .u32 0) (.int .u32 25) (.int .u32 0) (.string ⟨#[115, 116]⟩) f0 f1 f2 f3
      rw [results_cell1 rfl]; simp [go_sem, s0, s1, s2, s3]
    · simp only [selA, docA, docSel, cond_true, cond_false, *]; rfl
  · refine bodyPost_ret (v := .agg #[.int .u32 0, .int .u32 26, .int .u32 0, .string ⟨#[115, 116]⟩]) ?_ rfl ⟨?_, below4 HB.out (Nat.le_refl _) (.int .u32 0) (.int .u32 26) (.int .u32 0) (.string ⟨#[115, 116]⟩)⟩
    · obtain ⟨s0, s1, s2, s3⟩ := res4 W w.heap.size (.int .u32 0) (.int .u32 26) (.int .u32 0) (.string ⟨#[115, 116]⟩) f0 f1 f2 f3
      rw [results_cell1 rfl]; simp [go_sem, s0, s1, s2, s3]
    · simp only [selA, docA, docSel, cond_true, cond_false, *]; rfl
  · refine bodyPost_ret (v := .agg #[.int .u32 0, .int .u32 27, .int .u32 0, .string ⟨#[115, 116]⟩]) ?_ rfl ⟨?_, below4 HB.out (Nat.le_refl _) (.int .u32 0) (.int .u32 27) (.int .u32 0) (.string ⟨#[115, 116]⟩)⟩
    · obtain ⟨s0, s1, s2, s3⟩ := res4 W w.heap.size (.int .u32 0) (.int .u32 27) (.int .u32 0) (.string ⟨#[115, 116]⟩) f0 f1 f2 f3
      rw [results_cell1 rfl]; simp [go_sem, s0, s1, s2, s3]
    · simp only [selA, docA, docSel, cond_true, cond_false, *]; rfl
  · refine bodyPost_ret (v := .agg #[.int .u32 0, .int .u32 32, .int .u32 0, .string ⟨#[100, 115, 116]⟩]) ?_ rfl ⟨?_, below4 HB.out (Nat.le_refl _) (.int .u32 0) (.int .u32 32) (.int .u32 0) (.string ⟨#[100, 115, 116]⟩)⟩
    · obtain ⟨s0, s1, s2, s3⟩ := res4 W w.heap.size (.int .u32 0) (.int .u32 32) (.int .u32 0) (.string ⟨#[100, 115, 116]⟩) f0 f1 f2 f3
      rw [results_cell1 rfl]; simp [go_sem, s0, s1, s2, s3]
    · simp only [selA, docA, docSel, cond_true, cond_false, *]; rfl
  · refine bodyPost_ret (v := .agg #[.int .u32 0, .int .u32 33, .int .u32 0, .string ⟨#[100, 115, 116]⟩]) ?_ rfl ⟨?_, below4 HB.out (Nat.le_refl _) (.int .u32 0) (.int .u32 33) (.int .u32 0) (.string ⟨#[100, 115, 116]⟩)⟩
    · obtain ⟨s0, s1, s2, s3⟩ := res4 W w.heap.size (.int .u32 0) (.int .u32 33) (.int .u32 0) (.string ⟨#[100, 115, 116]⟩) f0 f1 f2 f3
      rw [results_cell1 rfl]; simp [go_sem, s0, s1, s2, s3]
    · simp only [selA, docA, docSel, cond_true, cond_false, *]; rfl
  · refine bodyPost_ret (v := .agg #[.int .u32 0, .int .u32 34, .int .u32 0, .string ⟨#[100, 115, 116]⟩]) ?_ rfl ⟨?_, below4 HB.out (Nat.le_refl _) (.int .u32 0) (.int .u32 34) (.int .u32 0) (.string ⟨#[100, 115, 116]⟩)⟩
    · obtain ⟨s0, s1, s2, s3⟩ := res4 W w.heap.size (.int .u32 0) (.int .u32 34) (.int .u32 0) (.string ⟨#[100, 115, 116]⟩) f0 f1 f2 f3
      rw [results_cell1 rfl]; simp [go_sem, s0, s1, s2, s3]
    · simp only [selA, docA, docSel, cond_true, cond_false, *]; rfl
  · refine bodyPost_ret (v := .agg #[.int .u32 0, .int .u32 35, .int .u32 0, .string ⟨#[100, 115, 116]⟩]) ?_ rfl ⟨?_, below4 HB.out (Nat.le_refl _) (.int .u32 0) (.int .u32 35) (.int .u32 0) (.string ⟨#[100, 115, 116]⟩)⟩
    · obtain ⟨s0, s1, s2, s3⟩ := res4 W w.heap.size (.int .u32 0) (.int .u32 35) (.int .u32 0) (.string ⟨#[100, 115, 116]⟩) f0 f1 f2 f3
      rw [results_cell1 rfl]; simp [go_sem, s0, s1, s2, s3]
    · simp only [selA, docA, docSel, cond_true, cond_false, *]; rfl
  · refine bodyPost_ret (v := .agg #[.int .u32 0, .int .u32 36, .int .u32 0, .string ⟨#[100, 115, 116]⟩]) ?_ rfl ⟨?_, below4 HB.out (Nat.le_refl _) (.int .u32 0) (.int .u32 36) (.int .u32 0) (.string ⟨#[100, 115, 116]⟩)⟩
    · obtain ⟨s0, s1, s2, s3⟩ := res4 W w.heap.size (.int .u32 0) (.int .u32 36) (.int .u32 0) (.string ⟨#[100, 115, 116]⟩) f0 f1 f2 f3
      rw [results_cell1 rfl]; simp [go_sem, s0, s1, s2, s3]
    · simp only [selA, docA, docSel, cond_true, cond_false, *]; rfl
  · refine bodyPost_ret (v := .agg #[.int .u32 0, .int .u32 37, .int .u32 0, .string ⟨#[100, 115, 116]⟩]) ?_ rfl ⟨?_, below4 HB.out (Nat.le_refl _) (.int .u32 0) (.int .u32 37) (.int .u32 0) (.string ⟨#[100, 115, 116]⟩)⟩
    · obtain ⟨s0, s1, s2, s3⟩ := res4 W w.heap.size (.int .u32 0) (.int .u32 37) (.int .u32 0) (.string ⟨#[100, 115, 116]⟩) f0 f1 f2 f3
      rw [results_cell1 rfl]; simp [go_sem, s0, s1, s2, s3]
    · simp only [selA, docA, docSel, cond_true, cond_false, *]; rfl
  · refine bodyPost_ret (v := .agg #[.int .u32 0, .int .u32 38, .int .u32 0, .string ⟨#[100, 115, 116]⟩]) ?_ rfl ⟨?_, below4 HB.out (Nat.le_refl _) (.int .u32 0) (.int .u32 38) (.int .u32 0) (.string ⟨#[100, 115, 116]⟩)⟩
    · obtain ⟨s0, s1, s2, s3⟩ := res4 W w.heap.size (.int .u32 0) (.int .u32 38) (.int .u32 0) (.string ⟨#[100, 115, 116]⟩) f0 f1 f2 f3
      rw [results_cell1 rfl]; simp [go_sem, s0, s1, s2, s3]
    · simp only [selA, docA, docSel, cond_true, cond_false, *]; rfl
  · refine bodyPost_ret (v := .agg #[.int .u32 0, .int .u32 39, .int .u32 0, .string ⟨#[100, 115, 116]⟩]) ?_ rfl ⟨?_, below4 HB.out (Nat.le_refl _) (.int .u32 0) (.int .u32 39) (.int .u32 0) (.string ⟨#[100, 115, 116]⟩)⟩
    · obtain ⟨s0, s1, s2, s3⟩ := res4 W w.heap.size (.int .u32 0) (.int .u32 39) (.int .u32 0) (.string ⟨#[100, 115, 116]⟩) f0 f1 f2 f3
      rw [results_cell1 rfl]; simp [go_sem, s0, s1, s2, s3]
    · simp only [selA, docA, docSel, cond_true, cond_false, *]; rfl
  · refine bodyPost_ret (v := .agg #[.int .u32 0, .int .u32 42, .int .u32 0, .string ⟨#[100, 115, 116]⟩]) ?_ rfl ⟨?_, below4 HB.out (Nat.le_refl _) (.int .u32 0) (.int .u32 42) (.int .u32 0) (.string ⟨#[100, 115, 116]⟩)⟩
    · obtain ⟨s0, s1, s2, s3⟩ := res4 W w.heap.size (.int .u32 0) (.int .u32 42) (.int .u32 0) (.string ⟨#[100, 115, 116]⟩) f0 f1 f2 f3
      rw [results_cell1 rfl]; simp [go_sem, s0, s1, s2, s3]
    · simp only [selA, docA, docSel, cond_true, cond_false, *]; rfl
  · refine bodyPost_ret (v := .agg #[.int .u32 0, .int .u32 43, .int .u32 0, .string ⟨#[100, 115, 116]⟩]) ?_ rfl ⟨?_, below4 HB.out (Nat.le_refl _) (.int .u32 0) (.int .u32 43) (.int .u32 0) (.string ⟨#[100, 115, 116]⟩)⟩
    · obtain ⟨s0, s1, s2, s3⟩ := res4 W w.heap.size (.int .u32 0) (.int .u32 43) (.int .u32 0) (.string ⟨#[100, 115, 116]⟩) f0 f1 f2 f3
      rw [results_cell1 rfl]; simp [go_sem, s0, s1, s2, s3]
    · simp only [selA, docA, docSel, cond_true, cond_false, *]; rfl
  · refine bodyPost_ret (v := .agg #[.int .u32 0, .int .u32 48, .int .u32 0, .string ⟨#[115, 116]⟩]) ?_ rfl ⟨?_, below4 HB.out (Nat.le_refl _) (.int .u32 0) (.int .u32 48) (.int .u32 0) (.string ⟨#[115, 116]⟩)⟩
    · obtain ⟨s0, s1, s2, s3⟩ := res4 W w.heap.size (.int .u32 0) (.int .u32 48) (.int .u32 0) (.string ⟨#[115, 116]⟩) f0 f1 f2 f3
      rw [results_cell1 rfl]; simp [go_sem, s0, s1, s2, s3]
    · simp only [selA, docA, docSel, cond_true, cond_false, *]; rfl
  · refine bodyPost_ret (v := .agg #[.int .u32 0, .int .u32 49, .int .u32 0, .string ⟨#[115, 116]⟩]) ?_ rfl ⟨?_, below4 HB.out (Nat.le_refl _) (.int .u32 0) (.int .u32 49) (.int .u32 0) (.string ⟨#[115, 116]⟩)⟩
    · obtain ⟨s0, s1, s2, s3⟩ := res4 W w.heap.size (.int .u32 0) (.int .u32 49) (.int .u32 0) (.string ⟨#[115, 116]⟩) f0 f1 f2 f3
      rw [results_cell1 rfl]; simp [go_sem, s0, s1, s2, s3]
    · simp only [selA, docA, docSel, cond_true, cond_false, *]; rfl
  · refine bodyPost_ret (v := .agg #[.int .u32 0, .int .u32 50, .int .u32 0, .string ⟨#[115, 116]⟩]) ?_ rfl ⟨?_, below4 HB.out (Nat.le_refl _) (.int .u32 0) (.int .u32 50) (.int .u32 0) (.string ⟨#[115, 116]⟩)⟩
    · obtain ⟨s0, s1, s2, s3⟩ := res4 W w.heap.size (.int .u32 0) (.int .u32 50) (.int .u32 0) (.string ⟨#[115, 116]⟩) f0 f1 f2 f3
      rw [results_cell1 rfl]; simp [go_sem, s0, s1, s2, s3]
    · simp only [selA, docA, docSel, cond_true, cond_false, *]; rfl
  · refine bodyPost_ret (v := .agg #[.int .u32 0, .int .u32 51, .int .u32 0, .string ⟨#[115, 116]⟩]) ?_ rfl ⟨?_, below4 HB.out (Nat.le_refl _) (.int .u32 0) (.int .u32 51) (.int .u32 0) (.string ⟨#[115, 116]⟩)⟩
    · obtain ⟨s0, s1, s2, s3⟩ := res4 W w.heap.size (.int .u32 0) (.int .u32 51) (.int .u32 0) (.string ⟨#[115, 116]⟩) f0 f1 f2 f3
      rw [results_cell1 rfl]; simp [go_sem, s0, s1, s2, s3]
    · simp only [selA, docA, docSel, cond_true, cond_false, *]; rfl
  · refine bodyPost_ret (v := .agg #[.int .u32 0, .int .u32 52, .int .u32 0, .string ⟨#[115, 116]⟩]) ?_ rfl ⟨?_, below4 HB.out (Nat.le_refl _) (.int .u32 0) (.int .u32 52) (.int .u32 0) (.string ⟨#[115, 116]⟩)⟩
    · obtain ⟨s0, s1, s2, s3⟩ := res4 W w.heap.size (.int .u32 0) (.int .u32 52) (.int .u32 0) (.string ⟨#[115, 116]⟩) f0 f1 f2 f3
      rw [results_cell1 rfl]; simp [go_sem, s0, s1, s2, s3]
    · simp only [selA, docA, docSel, cond_true, cond_false, *]; rfl
  · refine bodyPost_ret (v := .agg #[.int .u32 0, .int .u32 54, .int .u32 0, .string ⟨#[115, 116]⟩]) ?_ rfl ⟨?_, below4 HB.out (Nat.le_refl _) (.int .u32 0) (.int .u32 54) (.int .u32 0) (.string ⟨#[115, 116]⟩)⟩
    · obtain ⟨s0, s1, s2, s3⟩ := res4 W w.heap.size (.int .u32 0) (.int .u32 54) (.int .u32 0) (.string ⟨#[115, 116]⟩) f0 f1 f2 f3
      rw [results_cell1 rfl]; simp [go_sem, s0, s1, s2, s3]
    · simp only [selA, docA, docSel, cond_true, cond_false, *]; rfl
  · have HE : Hid (selA n = selB n) := by show _ = _; simp only [selA, docA, docSel, cond_true, cond_false, *]
    have K := other31 n W
    generalize selB n = R2 at K HE
    obtain ⟨op, sub, sa, form⟩ := R2
    unfold Dr.val at K
    simp only at K
    refine K.mono ?_
    rintro e w3 ⟨rfl, hb3⟩
    have g0 := f0.keep hb3
    have g1 := f1.keep hb3
    have g2 := f2.keep hb3
    have g3 := f3.keep hb3
    clear q0 q1 q2 q3 z0 z1 z2 z3
    have q0 := g0.cell
    have q1 := g1.cell
    have q2 := g2.cell
    have q3 := g3.cell
    have z0 := g0.frozen
    have z1 := g1.frozen
    have z2 := g2.frozen
    have z3 := g3.frozen
    have HB3 : Hid (Below w.heap.size w w3) := below_tr HB.out hb3
    have HG : Hid _ := res4 w3 w.heap.size (.int .u32 (op : Int)) (.int .u32 (sub : Int)) (.int .u32 (sa : Int)) (.string form) g0 g1 g2 g3
    clear K hb3
    go_wp2
    refine bodyPost_ret (v := .agg #[.int .u32 (op : Int), .int .u32 (sub : Int), .int .u32 (sa : Int), .string form]) ?_ rfl ⟨by rw [HE.out]; rfl, below4 HB3.out (Nat.le_refl _) _ _ _ _⟩
    obtain ⟨s0, s1, s2, s3⟩ := HG.out
    rw [results_cell1 rfl]; simp [go_sem, s0, s1, s2, s3]
end Go.Proofs.YtglkkeelocdanaaGreatDoor
