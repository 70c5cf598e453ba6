/- What is proved here: the document's row of a name. -/
import Derived.Test.YtogokbefpgaciaaDoorFd
namespace Go.Proofs.YtogokbefpgaciaaDoor
open Go.RowKit
set_option linter.unusedVariables false
set_option linter.unusedSimpArgs false
set_option maxRecDepth 100000
/-- The document's row: an operation, a function or second number, sa, a form. -/
structure Dr where
  op : Nat
  sub : Nat
  sa : Nat
  form : ByteArray
def Dr.val (r : Dr) : Value := .agg #[.int .u32 (r.op : Int), .int .u32 (r.sub : Int), .int .u32 (r.sa : Int), .string r.form]
def zeroD : Dr := ⟨0, 0, 0, ⟨#[]⟩⟩
/-- The first of that name. -/
def docSel : List (List UInt8 × Dr) → List UInt8 → Dr → Dr
  | [], _, d => d
  | (n, r) :: l, m, d => bif m == n then r else docSel l m d
def docA : List (List UInt8 × Dr) := [([115, 108, 108], ⟨0, 0, 0, ⟨#[100, 116, 97]⟩⟩),
  ([115, 114, 108], ⟨0, 2, 0, ⟨#[100, 116, 97]⟩⟩),
  ([115, 114, 97], ⟨0, 3, 0, ⟨#[100, 116, 97]⟩⟩),
  ([115, 108, 108, 118], ⟨0, 4, 0, ⟨#[100, 116, 115]⟩⟩),
  ([115, 114, 108, 118], ⟨0, 6, 0, ⟨#[100, 116, 115]⟩⟩),
  ([115, 114, 97, 118], ⟨0, 7, 0, ⟨#[100, 116, 115]⟩⟩),
  ([106, 114], ⟨0, 8, 0, ⟨#[115]⟩⟩),
  ([106, 97, 108, 114], ⟨0, 9, 0, ⟨#[100, 115]⟩⟩),
  ([109, 111, 118, 122], ⟨0, 10, 0, ⟨#[100, 115, 116]⟩⟩),
  ([109, 111, 118, 110], ⟨0, 11, 0, ⟨#[100, 115, 116]⟩⟩),
  ([115, 121, 115, 99, 97, 108, 108], ⟨0, 12, 0, ⟨#[99]⟩⟩),
  ([98, 114, 101, 97, 107], ⟨0, 13, 0, ⟨#[99]⟩⟩),
  ([109, 102, 104, 105], ⟨0, 16, 0, ⟨#[100]⟩⟩),
  ([109, 116, 104, 105], ⟨0, 17, 0, ⟨#[115]⟩⟩),
  ([109, 102, 108, 111], ⟨0, 18, 0, ⟨#[100]⟩⟩),
  ([109, 116, 108, 111], ⟨0, 19, 0, ⟨#[115]⟩⟩),
  ([109, 117, 108, 116], ⟨0, 24, 0, ⟨#[115, 116]⟩⟩),
  ([109, 117, 108, 116, 117], ⟨0, 25, 0, ⟨#[115, 116]⟩⟩),
  ([100, 105, 118], ⟨0, 26, 0, ⟨#[115, 116]⟩⟩),
  ([100, 105, 118, 117], ⟨0, 27, 0, ⟨#[115, 116]⟩⟩),
  ([97, 100, 100], ⟨0, 32, 0, ⟨#[100, 115, 116]⟩⟩),
  ([97, 100, 100, 117], ⟨0, 33, 0, ⟨#[100, 115, 116]⟩⟩),
  ([115, 117, 98], ⟨0, 34, 0, ⟨#[100, 115, 116]⟩⟩),
  ([115, 117, 98, 117], ⟨0, 35, 0, ⟨#[100, 115, 116]⟩⟩),
  ([97, 110, 100], ⟨0, 36, 0, ⟨#[100, 115, 116]⟩⟩),
  ([111, 114], ⟨0, 37, 0, ⟨#[100, 115, 116]⟩⟩),
  ([120, 111, 114], ⟨0, 38, 0, ⟨#[100, 115, 116]⟩⟩),
  ([110, 111, 114], ⟨0, 39, 0, ⟨#[100, 115, 116]⟩⟩),
  ([115, 108, 116], ⟨0, 42, 0, ⟨#[100, 115, 116]⟩⟩),
  ([115, 108, 116, 117], ⟨0, 43, 0, ⟨#[100, 115, 116]⟩⟩),
  ([116, 103, 101], ⟨0, 48, 0, ⟨#[115, 116]⟩⟩),
  ([116, 103, 101, 117], ⟨0, 49, 0, ⟨#[115, 116]⟩⟩),
  ([116, 108, 116], ⟨0, 50, 0, ⟨#[115, 116]⟩⟩),
  ([116, 108, 116, 117], ⟨0, 51, 0, ⟨#[115, 116]⟩⟩),
  ([116, 101, 113], ⟨0, 52, 0, ⟨#[115, 116]⟩⟩),
  ([116, 110, 101], ⟨0, 54, 0, ⟨#[115, 116]⟩⟩)]
def docB : List (List UInt8 × Dr) := [([98, 108, 116, 122], ⟨1, 0, 0, ⟨#[115, 111]⟩⟩),
  ([98, 103, 101, 122], ⟨1, 1, 0, ⟨#[115, 111]⟩⟩),
  ([98, 108, 116, 122, 97, 108], ⟨1, 16, 0, ⟨#[115, 111]⟩⟩),
  ([98, 103, 101, 122, 97, 108], ⟨1, 17, 0, ⟨#[115, 111]⟩⟩),
  ([106], ⟨2, 0, 0, ⟨#[106]⟩⟩),
  ([106, 97, 108], ⟨3, 0, 0, ⟨#[106]⟩⟩),
  ([98, 101, 113], ⟨4, 0, 0, ⟨#[115, 116, 111]⟩⟩),
  ([98, 110, 101], ⟨5, 0, 0, ⟨#[115, 116, 111]⟩⟩),
  ([98, 108, 101, 122], ⟨6, 0, 0, ⟨#[115, 111]⟩⟩),
  ([98, 103, 116, 122], ⟨7, 0, 0, ⟨#[115, 111]⟩⟩),
  ([97, 100, 100, 105], ⟨8, 0, 0, ⟨#[116, 115, 105]⟩⟩),
  ([97, 100, 100, 105, 117], ⟨9, 0, 0, ⟨#[116, 115, 105]⟩⟩),
  ([115, 108, 116, 105], ⟨10, 0, 0, ⟨#[116, 115, 105]⟩⟩),
  ([115, 108, 116, 105, 117], ⟨11, 0, 0, ⟨#[116, 115, 105]⟩⟩),
  ([97, 110, 100, 105], ⟨12, 0, 0, ⟨#[116, 115, 105]⟩⟩),
  ([111, 114, 105], ⟨13, 0, 0, ⟨#[116, 115, 105]⟩⟩),
  ([120, 111, 114, 105], ⟨14, 0, 0, ⟨#[116, 115, 105]⟩⟩),
  ([108, 117, 105], ⟨15, 0, 0, ⟨#[116, 105]⟩⟩),
  ([109, 97, 100, 100], ⟨28, 0, 0, ⟨#[115, 116]⟩⟩),
  ([109, 97, 100, 100, 117], ⟨28, 1, 0, ⟨#[115, 116]⟩⟩),
  ([109, 117, 108], ⟨28, 2, 0, ⟨#[100, 115, 116]⟩⟩),
  ([109, 115, 117, 98], ⟨28, 4, 0, ⟨#[115, 116]⟩⟩),
  ([109, 115, 117, 98, 117], ⟨28, 5, 0, ⟨#[115, 116]⟩⟩),
  ([99, 108, 122], ⟨28, 32, 0, ⟨#[100, 115, 100]⟩⟩),
  ([99, 108, 111], ⟨28, 33, 0, ⟨#[100, 115, 100]⟩⟩),
  ([101, 120, 116], ⟨31, 0, 0, ⟨#[116, 115, 120]⟩⟩),
  ([105, 110, 115], ⟨31, 4, 0, ⟨#[116, 115, 120]⟩⟩),
  ([119, 115, 98, 104], ⟨31, 32, 2, ⟨#[100, 116]⟩⟩),
  ([115, 101, 98], ⟨31, 32, 16, ⟨#[100, 116]⟩⟩),
  ([115, 101, 104], ⟨31, 32, 24, ⟨#[100, 116]⟩⟩),
  ([114, 100, 104, 119, 114], ⟨31, 59, 0, ⟨#[116, 100]⟩⟩)]
def docC : List (List UInt8 × Dr) := [([114, 111, 116, 114], ⟨0, 2, 0, ⟨#[100, 116, 114]⟩⟩),
  ([114, 111, 116, 114, 118], ⟨0, 6, 0, ⟨#[100, 116, 118]⟩⟩),
  ([108, 98], ⟨32, 0, 0, ⟨#[116, 109]⟩⟩),
  ([108, 104], ⟨33, 0, 0, ⟨#[116, 109]⟩⟩),
  ([108, 119, 108], ⟨34, 0, 0, ⟨#[116, 109]⟩⟩),
  ([108, 119], ⟨35, 0, 0, ⟨#[116, 109]⟩⟩),
  ([108, 98, 117], ⟨36, 0, 0, ⟨#[116, 109]⟩⟩),
  ([108, 104, 117], ⟨37, 0, 0, ⟨#[116, 109]⟩⟩),
  ([108, 119, 114], ⟨38, 0, 0, ⟨#[116, 109]⟩⟩),
  ([115, 98], ⟨40, 0, 0, ⟨#[116, 109]⟩⟩),
  ([115, 104], ⟨41, 0, 0, ⟨#[116, 109]⟩⟩),
  ([115, 119, 108], ⟨42, 0, 0, ⟨#[116, 109]⟩⟩),
  ([115, 119], ⟨43, 0, 0, ⟨#[116, 109]⟩⟩),
  ([115, 119, 114], ⟨46, 0, 0, ⟨#[116, 109]⟩⟩),
  ([108, 108], ⟨48, 0, 0, ⟨#[116, 109]⟩⟩),
  ([115, 99], ⟨56, 0, 0, ⟨#[116, 109]⟩⟩)]
def selC (n : ByteArray) : Dr := docSel docC n.toList zeroD
def selB (n : ByteArray) : Dr := docSel docB n.toList (selC n)
def selA (n : ByteArray) : Dr := docSel docA n.toList (selB n)
set_option maxHeartbeats 4000000 in
theorem memory36 (n : ByteArray) (w : World) : Calls Tryd.prog 95 #[.string n] w fun e w' => e = .returned (selC n).val ∧ Below w.heap.size w w' := by
  obtain ⟨W, hW, hb, hz, c0, c1, c2, c3, f0, f1, f2, f3⟩ := box4 w (.int .u32 0) (.int .u32 0) (.int .u32 0) (.string ⟨#[]⟩) 71
  have HB : Hid (Below w.heap.size w W) := hb
  have q0 := f0.cell
  have q1 := f1.cell
  have q2 := f2.cell
  have q3 := f3.cell
  have z0 := f0.frozen
  have z1 := f1.frozen
  have z2 := f2.frozen
  have z3 := f3.frozen
  clear hb hz c0 c1 c2 c3
  go_enter Tryd.func95, Tryd.ntmps95
  go_wp2_with fail
  · refine bodyPost_ret (v := .agg #[.int .u32 0, .int .u32 2, .int .u32 0, .string ⟨#[100, 116, 114]⟩]) ?_ rfl ⟨?_, below4 HB.out (Nat.le_refl _) (.int .u32 0) (.int .u32 2) (.int .u32 0) (.string ⟨#[100, 116, 114]⟩)⟩
    · obtain ⟨s0, s1, s2, s3⟩ := res4 W w.heap.size (.int .u32 0) (.int .u32 2) (.int .u32 0) (.string ⟨#[100, 116, 114]⟩) f0 f1 f2 f3
      rw [results_cell1 rfl]; simp [go_sem, s0, s1, s2, s3]
    · simp only [selC, docC, docSel, cond_true, cond_false, *]; rfl
  · refine bodyPost_ret (v := .agg #[.int .u32 0, .int .u32 6, .int .u32 0, .string ⟨#[100, 116, 118]⟩]) ?_ rfl ⟨?_, below4 HB.out (Nat.le_refl _) (.int .u32 0) (.int .u32 6) (.int .u32 0) (.string ⟨#[100, 116, 118]⟩)⟩
    · obtain ⟨s0, s1, s2, s3⟩ := res4 W w.heap.size (.int .u32 0) (.int .u32 6) (.int .u32 0) (.string ⟨#[100, 116, 118]⟩) f0 f1 f2 f3
      rw [results_cell1 rfl]; simp [go_sem, s0, s1, s2, s3]
    · simp only [selC, docC, docSel, cond_true, cond_false, *]; rfl
  · refine bodyPost_ret (v := .agg #[.int .u32 32, .int .u32 0, .int .u32 0, .string ⟨#[116, 109]⟩]) ?_ rfl ⟨?_, below4 HB.out (Nat.le_refl _) (.int .u32 32) (.int .u32 0) (.int .u32 0) (.string ⟨#[116, 109]⟩)⟩
    · obtain ⟨s0, s1, s2, s3⟩ := res4 W w.heap.size (.int .u32 32) (.int .u32 0) (.int .u32 0) (.string ⟨#[116, 109]⟩) f0 f1 f2 f3
      rw [results_cell1 rfl]; simp [go_sem, s0, s1, s2, s3]
    · simp only [selC, docC, docSel, cond_true, cond_false, *]; rfl
  · refine bodyPost_ret (v := .agg #[.int .u32 33, .int .u32 0, .int .u32 0, .string ⟨#[116, 109]⟩]) ?_ rfl ⟨?_, below4 HB.out (Nat.le_refl _) (.int .u32 33) (.int .u32 0) (.int .u32 0) (.string ⟨#[116, 109]⟩)⟩
    · obtain ⟨s0, s1, s2, s3⟩ := res4 W w.heap.size (.int .u32 33) (.int .u32 0) (.int .u32 0) (.string ⟨#[116, 109]⟩) f0 f1 f2 f3
      rw [results_cell1 rfl]; simp [go_sem, s0, s1, s2, s3]
    · simp only [selC, docC, docSel, cond_true, cond_false, *]; rfl
  · refine bodyPost_ret (v := .agg #[.int .u32 34, .int .u32 0, .int .u32 0, .string ⟨#[116, 109]⟩]) ?_ rfl ⟨?_, below4 HB.out (Nat.le_refl _) (.int .u32 34) (.int .u32 0) (.int .u32 0) (.string ⟨#[116, 109]⟩)⟩
    · obtain ⟨s0, s1, s2, s3⟩ := res4 W w.heap.size (.int .u32 34) (.int .u32 0) (.int .u32 0) (.string ⟨#[116, 109]⟩) f0 f1 f2 f3
      rw [results_cell1 rfl]; simp [go_sem, s0, s1, s2, s3]
    · simp only [selC, docC, docSel, cond_true, cond_false, *]; rfl
  · refine bodyPost_ret (v := .agg #[.int .u32 35, .int .u32 0, .int .u32 0, .string ⟨#[116, 109]⟩]) ?_ rfl ⟨?_, below4 HB.out (Nat.le_refl _) (.int .u32 35) (.int .u32 0) (.int .u32 0) (.string ⟨#[116, 109]⟩)⟩
    · obtain ⟨s0, s1, s2, s3⟩ := res4 W w.heap.size (.int .u32 35) (.int .u32 0) (.int .u32 0) (.string ⟨#[116, 109]⟩) f0 f1 f2 f3
      rw [results_cell1 rfl]; simp [go_sem, s0, s1, s2, s3]
    · simp only [selC, docC, docSel, cond_true, cond_false, *]; rfl
  · refine bodyPost_ret (v := .agg #[.int .u32 36, .int .u32 0, .int .u32 0, .string ⟨#[116, 109]⟩]) ?_ rfl ⟨?_, below4 HB.out (Nat.le_refl _) (.int .u32 36) (.int .u32 0) (.int .u32 0) (.string ⟨#[116, 109]⟩)⟩
    · obtain ⟨s0, s1, s2, s3⟩ := res4 W w.heap.size (.int .u32 36) (.int .u32 0) (.int .u32 0) (.string ⟨#[116, 109]⟩) f0 f1 f2 f3
      rw [results_cell1 rfl]; simp [go_sem, s0, s1, s2, s3]
    · simp only [selC, docC, docSel, cond_true, cond_false, *]; rfl
  · refine bodyPost_ret (v := .agg #[.int .u32 37, .int .u32 0, .int .u32 0, .string ⟨#[116, 109]⟩]) ?_ rfl ⟨?_, below4 HB.out (Nat.le_refl _) (.int .u32 37) (.int .u32 0) (.int .u32 0) (.string ⟨#[116, 109]⟩)⟩
    · obtain ⟨s0, s1, s2, s3⟩ := res4 W w.heap.size (.int .u32 37) (.int .u32 0) (.int .u32 0) (.string ⟨#[116, 109]⟩) f0 f1 f2 f3
      rw [results_cell1 rfl]; simp [go_sem, s0, s1, s2, s3]
    · simp only [selC, docC, docSel, cond_true, cond_false, *]; rfl
  · refine bodyPost_ret (v := .agg #[.int .u32 38, .int .u32 0, .int .u32 0, .string ⟨#[116, 109]⟩]) ?_ rfl ⟨?_, below4 HB.out (Nat.le_refl _) (.int .u32 38) (.int .u32 0) (.int .u32 0) (.string ⟨#[116, 109]⟩)⟩
    · obtain ⟨s0, s1, s2, s3⟩ := res4 W w.heap.size (.int .u32 38) (.int .u32 0) (.int .u32 0) (.string ⟨#[116, 109]⟩) f0 f1 f2 f3
      rw [results_cell1 rfl]; simp [go_sem, s0, s1, s2, s3]
    · simp only [selC, docC, docSel, cond_true, cond_false, *]; rfl
  · refine bodyPost_ret (v := .agg #[.int .u32 40, .int .u32 0, .int .u32 0, .string ⟨#[116, 109]⟩]) ?_ rfl ⟨?_, below4 HB.out (Nat.le_refl _) (.int .u32 40) (.int .u32 0) (.int .u32 0) (.string ⟨#[116, 109]⟩)⟩
    · obtain ⟨s0, s1, s2, s3⟩ := res4 W w.heap.size (.int .u32 40) (.int .u32 0) (.int .u32 0) (.string ⟨#[116, 109]⟩) f0 f1 f2 f3
      rw [results_cell1 rfl]; simp [go_sem, s0, s1, s2, s3]
    · simp only [selC, docC, docSel, cond_true, cond_false, *]; rfl
  · refine bodyPost_ret (v := .agg #[.int .u32 41, .int .u32 0, .int .u32 0, .string ⟨#[116, 109]⟩]) ?_ rfl ⟨?_, below4 HB.out (Nat.le_refl _) (.int .u32 41) (.int .u32 0) (.int .u32 0) (.string ⟨#[116, 109]⟩)⟩
    · obtain ⟨s0, s1, s2, s3⟩ := res4 W w.heap.size (.int .u32 41) (.int .u32 0) (.int .u32 0) (.string ⟨#[116, 109]⟩) f0 f1 f2 f3
      rw [results_cell1 rfl]; simp [go_sem, s0, s1, s2, s3]
    · simp only [selC, docC, docSel, cond_true, cond_false, *]; rfl
  · refine bodyPost_ret (v := .agg #[.int .u32 42, .int .u32 0, .int .u32 0, .string ⟨#[116, 109]⟩]) ?_ rfl ⟨?_, below4 HB.out (Nat.le_refl _) (.int .u32 42) (.int .u32 0) (.int .u32 0) (.string ⟨#[116, 109]⟩)⟩
    · obtain ⟨s0, s1, s2, s3⟩ := res4 W w.heap.size (.int .u32 42) (.int .u32 0) (.int .u32 0) (.string ⟨#[116, 109]⟩) f0 f1 f2 f3
      rw [results_cell1 rfl]; simp [go_sem, s0, s1, s2, s3]
    · simp only [selC, docC, docSel, cond_true, cond_false, *]; rfl
  · refine bodyPost_ret (v := .agg #[.int .u32 43, .int .u32 0, .int .u32 0, .string ⟨#[116, 109]⟩]) ?_ rfl ⟨?_, below4 HB.out (Nat.le_refl _) (.int .u32 43) (.int .u32 0) (.int .u32 0) (.string ⟨#[116, 109]⟩)⟩
    · obtain ⟨s0, s1, s2, s3⟩ := res4 W w.heap.size (.int .u32 43) (.int .u32 0) (.int .u32 0) (.string ⟨#[116, 109]⟩) f0 f1 f2 f3
      rw [results_cell1 rfl]; simp [go_sem, s0, s1, s2, s3]
    · simp only [selC, docC, docSel, cond_true, cond_false, *]; rfl
  · refine bodyPost_ret (v := .agg #[.int .u32 46, .int .u32 0, .int .u32 0, .string ⟨#[116, 109]⟩]) ?_ rfl ⟨?_, below4 HB.out (Nat.le_refl _) (.int .u32 46) (.int .u32 0) (.int .u32 0) (.string ⟨#[116, 109]⟩)⟩
    · obtain ⟨s0, s1, s2, s3⟩ := res4 W w.heap.size (.int .u32 46) (.int .u32 0) (.int .u32 0) (.string ⟨#[116, 109]⟩) f0 f1 f2 f3
      rw [results_cell1 rfl]; simp [go_sem, s0, s1, s2, s3]
    · simp only [selC, docC, docSel, cond_true, cond_false, *]; rfl
  · refine bodyPost_ret (v := .agg #[.int .u32 48, .int .u32 0, .int .u32 0, .string ⟨#[116, 109]⟩]) ?_ rfl ⟨?_, below4 HB.out (Nat.le_refl _) (.int .u32 48) (.int .u32 0) (.int .u32 0) (.string ⟨#[116, 109]⟩)⟩
    · obtain ⟨s0, s1, s2, s3⟩ := res4 W w.heap.size (.int .u32 48) (.int .u32 0) (.int .u32 0) (.string ⟨#[116, 109]⟩) f0 f1 f2 f3
      rw [results_cell1 rfl]; simp [go_sem, s0, s1, s2, s3]
    · simp only [selC, docC, docSel, cond_true, cond_false, *]; rfl
  · refine bodyPost_ret (v := .agg #[.int .u32 56, .int .u32 0, .int .u32 0, .string ⟨#[116, 109]⟩]) ?_ rfl ⟨?_, below4 HB.out (Nat.le_refl _) (.int .u32 56) (.int .u32 0) (.int .u32 0) (.string ⟨#[116, 109]⟩)⟩
    · obtain ⟨s0, s1, s2, s3⟩ := res4 W w.heap.size (.int .u32 56) (.int .u32 0) (.int .u32 0) (.string ⟨#[116, 109]⟩) f0 f1 f2 f3
      rw [results_cell1 rfl]; simp [go_sem, s0, s1, s2, s3]
    · simp only [selC, docC, docSel, cond_true, cond_false, *]; rfl
  · refine bodyPost_ret (v := .agg #[.int .u32 0, .int .u32 0, .int .u32 0, .string ⟨#[]⟩]) ?_ rfl ⟨?_, below4 HB.out (Nat.le_refl _) (.int .u32 0) (.int .u32 0) (.int .u32 0) (.string ⟨#[]⟩)⟩
    · obtain ⟨s0, s1, s2, s3⟩ := res4 W w.heap.size (.int .u32 0) (.int .u32 0) (.int .u32 0) (.string ⟨#[]⟩) f0 f1 f2 f3
      rw [results_cell1 rfl]; simp [go_sem, s0, s1, s2, s3]
    · simp only [selC, docC, docSel, cond_true, cond_false, *]; rfl
end Go.Proofs.YtogokbefpgaciaaDoor
