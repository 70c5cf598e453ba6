/- What is proved here: the program's rows of instructions lie in a new block. -/
import Derived.Test.YtglkkeelocdanaaDoorSm
namespace Go.Proofs.YtglkkeelocdanaaDoor
open Go.RowKit
set_option linter.unusedVariables false
set_option linter.unusedSimpArgs false
set_option maxRecDepth 100000
/-- A list of operations that call nothing and draw nothing, run. -/
def runOps (P : Program) (ops : Array Oper) : List Nat → Act → World → Option (Act × World)
  | [], a, w => some (a, w)
  | i :: rest, a, w =>
    match ops[i]? with
    | none => none
    | some o =>
      match Region.wanted o (yielded ops a.tmps) with
      | false => none
      | true =>
        match (execOp a.eval o).run P w with
        | .ok (.value v) w' => runOps P ops rest (a.put o.dst v) w'
        | .ok .skip w' => runOps P ops rest (a.put o.dst undef) w'
        | _ => none
theorem wpOps_of_run {P : Program} {ops : Array Oper} {Q : Exit → Act → World → Prop} : ∀ (l : List Nat) (a : Act) (w : World) (a' : Act) (w' : World), runOps P ops l a w = some (a', w') → Q .normal a' w' → wpOps P ops Q l a w
  | [], a, w, a', w', h, hq => by
    unfold runOps at h; cases h
    unfold wpOps; exact hq
  | i :: rest, a, w, a', w', h, hq => by
    unfold runOps at h
    unfold wpOps
    cases ho : ops[i]? with
    | none => simp [ho] at h
    | some o =>
      simp only [ho] at h ⊢
      cases hw : Region.wanted o (yielded ops a.tmps) with
      | false => simp [hw] at h
      | true =>
        simp only [hw] at h ⊢
        rw [if_pos trivial]
        refine .inl ?_
        unfold Oper.wp
        cases hr : (execOp a.eval o).run P w with
        | ok x w2 =>
          cases x with
          | value v => simp only [hr] at h; exact wpOps_of_run rest _ _ _ _ h hq
          | skip => simp only [hr] at h; exact wpOps_of_run rest _ _ _ _ h hq
          | _ => simp [hr] at h
        | _ => simp [hr] at h
theorem wp_run {P : Program} {id : Nat} {ops : Array Oper} {Q : Exit → Act → World → Prop} {a : Act} {w : World} {a' : Act} {w' : World} (h : runOps P ops (List.range ops.size) a w = some (a', w')) (hq : Q .normal a' w') : (Code.region id ops false).wp P Q a w := wp_region (wpOps_of_run _ _ _ _ _ h hq)
/-- A row: a name, an operation, the bits that all of its words have, a form. -/
structure Rw where
  name : ByteArray
  op : Nat
  same : Nat
  form : ByteArray
/-- A row's cells. -/
def Rw.cells (r : Rw) : List Value := [.string r.name, .int .u32 (r.op : Int), .int .u32 (r.same : Int), .string r.form]
def Rw.val (r : Rw) : Value := .agg #[.string r.name, .int .u32 (r.op : Int), .int .u32 (r.same : Int), .string r.form]
/-- The rows. -/
def rowsL : List Rw := [⟨⟨#[115, 108, 108]⟩, 0, 0, ⟨#[100, 116, 97]⟩⟩,
  ⟨⟨#[115, 114, 108]⟩, 0, 2, ⟨#[100, 116, 97]⟩⟩,
  ⟨⟨#[115, 114, 97]⟩, 0, 3, ⟨#[100, 116, 97]⟩⟩,
  ⟨⟨#[115, 108, 108, 118]⟩, 0, 4, ⟨#[100, 116, 115]⟩⟩,
  ⟨⟨#[115, 114, 108, 118]⟩, 0, 6, ⟨#[100, 116, 115]⟩⟩,
  ⟨⟨#[115, 114, 97, 118]⟩, 0, 7, ⟨#[100, 116, 115]⟩⟩,
  ⟨⟨#[106, 114]⟩, 0, 8, ⟨#[115]⟩⟩,
  ⟨⟨#[106, 97, 108, 114]⟩, 0, 9, ⟨#[100, 115]⟩⟩,
  ⟨⟨#[109, 111, 118, 122]⟩, 0, 10, ⟨#[100, 115, 116]⟩⟩,
  ⟨⟨#[109, 111, 118, 110]⟩, 0, 11, ⟨#[100, 115, 116]⟩⟩,
  ⟨⟨#[115, 121, 115, 99, 97, 108, 108]⟩, 0, 12, ⟨#[99]⟩⟩,
  ⟨⟨#[98, 114, 101, 97, 107]⟩, 0, 13, ⟨#[99]⟩⟩,
  ⟨⟨#[109, 102, 104, 105]⟩, 0, 16, ⟨#[100]⟩⟩,
  ⟨⟨#[109, 116, 104, 105]⟩, 0, 17, ⟨#[115]⟩⟩,
  ⟨⟨#[109, 102, 108, 111]⟩, 0, 18, ⟨#[100]⟩⟩,
  ⟨⟨#[109, 116, 108, 111]⟩, 0, 19, ⟨#[115]⟩⟩,
  ⟨⟨#[109, 117, 108, 116]⟩, 0, 24, ⟨#[115, 116]⟩⟩,
  ⟨⟨#[109, 117, 108, 116, 117]⟩, 0, 25, ⟨#[115, 116]⟩⟩,
  ⟨⟨#[100, 105, 118]⟩, 0, 26, ⟨#[115, 116]⟩⟩,
  ⟨⟨#[100, 105, 118, 117]⟩, 0, 27, ⟨#[115, 116]⟩⟩,
  ⟨⟨#[97, 100, 100]⟩, 0, 32, ⟨#[100, 115, 116]⟩⟩,
  ⟨⟨#[97, 100, 100, 117]⟩, 0, 33, ⟨#[100, 115, 116]⟩⟩,
  ⟨⟨#[115, 117, 98]⟩, 0, 34, ⟨#[100, 115, 116]⟩⟩,
  ⟨⟨#[115, 117, 98, 117]⟩, 0, 35, ⟨#[100, 115, 116]⟩⟩,
  ⟨⟨#[97, 110, 100]⟩, 0, 36, ⟨#[100, 115, 116]⟩⟩,
  ⟨⟨#[111, 114]⟩, 0, 37, ⟨#[100, 115, 116]⟩⟩,
  ⟨⟨#[120, 111, 114]⟩, 0, 38, ⟨#[100, 115, 116]⟩⟩,
  ⟨⟨#[110, 111, 114]⟩, 0, 39, ⟨#[100, 115, 116]⟩⟩,
  ⟨⟨#[115, 108, 116]⟩, 0, 42, ⟨#[100, 115, 116]⟩⟩,
  ⟨⟨#[115, 108, 116, 117]⟩, 0, 43, ⟨#[100, 115, 116]⟩⟩,
  ⟨⟨#[116, 103, 101]⟩, 0, 48, ⟨#[115, 116]⟩⟩,
  ⟨⟨#[116, 103, 101, 117]⟩, 0, 49, ⟨#[115, 116]⟩⟩,
  ⟨⟨#[116, 108, 116]⟩, 0, 50, ⟨#[115, 116]⟩⟩,
  ⟨⟨#[116, 108, 116, 117]⟩, 0, 51, ⟨#[115, 116]⟩⟩,
  ⟨⟨#[116, 101, 113]⟩, 0, 52, ⟨#[115, 116]⟩⟩,
  ⟨⟨#[116, 110, 101]⟩, 0, 54, ⟨#[115, 116]⟩⟩,
  ⟨⟨#[98, 108, 116, 122]⟩, 1, 0, ⟨#[115, 111]⟩⟩,
  ⟨⟨#[98, 103, 101, 122]⟩, 1, 65536, ⟨#[115, 111]⟩⟩,
  ⟨⟨#[98, 108, 116, 122, 97, 108]⟩, 1, 1048576, ⟨#[115, 111]⟩⟩,
  ⟨⟨#[98, 103, 101, 122, 97, 108]⟩, 1, 1114112, ⟨#[115, 111]⟩⟩,
  ⟨⟨#[106]⟩, 2, 0, ⟨#[106]⟩⟩,
  ⟨⟨#[106, 97, 108]⟩, 3, 0, ⟨#[106]⟩⟩,
  ⟨⟨#[98, 101, 113]⟩, 4, 0, ⟨#[115, 116, 111]⟩⟩,
  ⟨⟨#[98, 110, 101]⟩, 5, 0, ⟨#[115, 116, 111]⟩⟩,
  ⟨⟨#[98, 108, 101, 122]⟩, 6, 0, ⟨#[115, 111]⟩⟩,
  ⟨⟨#[98, 103, 116, 122]⟩, 7, 0, ⟨#[115, 111]⟩⟩,
  ⟨⟨#[97, 100, 100, 105]⟩, 8, 0, ⟨#[116, 115, 105]⟩⟩,
  ⟨⟨#[97, 100, 100, 105, 117]⟩, 9, 0, ⟨#[116, 115, 105]⟩⟩,
  ⟨⟨#[115, 108, 116, 105]⟩, 10, 0, ⟨#[116, 115, 105]⟩⟩,
  ⟨⟨#[115, 108, 116, 105, 117]⟩, 11, 0, ⟨#[116, 115, 105]⟩⟩,
  ⟨⟨#[97, 110, 100, 105]⟩, 12, 0, ⟨#[116, 115, 105]⟩⟩,
  ⟨⟨#[111, 114, 105]⟩, 13, 0, ⟨#[116, 115, 105]⟩⟩,
  ⟨⟨#[120, 111, 114, 105]⟩, 14, 0, ⟨#[116, 115, 105]⟩⟩,
  ⟨⟨#[108, 117, 105]⟩, 15, 0, ⟨#[116, 105]⟩⟩,
  ⟨⟨#[109, 97, 100, 100]⟩, 28, 0, ⟨#[115, 116]⟩⟩,
  ⟨⟨#[109, 97, 100, 100, 117]⟩, 28, 1, ⟨#[115, 116]⟩⟩,
  ⟨⟨#[109, 117, 108]⟩, 28, 2, ⟨#[100, 115, 116]⟩⟩,
  ⟨⟨#[109, 115, 117, 98]⟩, 28, 4, ⟨#[115, 116]⟩⟩,
  ⟨⟨#[109, 115, 117, 98, 117]⟩, 28, 5, ⟨#[115, 116]⟩⟩,
  ⟨⟨#[99, 108, 122]⟩, 28, 32, ⟨#[100, 115, 100]⟩⟩,
  ⟨⟨#[99, 108, 111]⟩, 28, 33, ⟨#[100, 115, 100]⟩⟩,
  ⟨⟨#[101, 120, 116]⟩, 31, 0, ⟨#[116, 115, 120]⟩⟩,
  ⟨⟨#[105, 110, 115]⟩, 31, 4, ⟨#[116, 115, 120]⟩⟩,
  ⟨⟨#[119, 115, 98, 104]⟩, 31, 160, ⟨#[100, 116]⟩⟩,
  ⟨⟨#[115, 101, 98]⟩, 31, 1056, ⟨#[100, 116]⟩⟩,
  ⟨⟨#[115, 101, 104]⟩, 31, 1568, ⟨#[100, 116]⟩⟩,
  ⟨⟨#[114, 100, 104, 119, 114]⟩, 31, 59, ⟨#[116, 100]⟩⟩,
  ⟨⟨#[108, 98]⟩, 32, 0, ⟨#[116, 109]⟩⟩,
  ⟨⟨#[108, 104]⟩, 33, 0, ⟨#[116, 109]⟩⟩,
  ⟨⟨#[108, 119, 108]⟩, 34, 0, ⟨#[116, 109]⟩⟩,
  ⟨⟨#[108, 119]⟩, 35, 0, ⟨#[116, 109]⟩⟩,
  ⟨⟨#[108, 98, 117]⟩, 36, 0, ⟨#[116, 109]⟩⟩,
  ⟨⟨#[108, 104, 117]⟩, 37, 0, ⟨#[116, 109]⟩⟩,
  ⟨⟨#[108, 119, 114]⟩, 38, 0, ⟨#[116, 109]⟩⟩,
  ⟨⟨#[115, 98]⟩, 40, 0, ⟨#[116, 109]⟩⟩,
  ⟨⟨#[115, 104]⟩, 41, 0, ⟨#[116, 109]⟩⟩,
  ⟨⟨#[115, 119, 108]⟩, 42, 0, ⟨#[116, 109]⟩⟩,
  ⟨⟨#[115, 119]⟩, 43, 0, ⟨#[116, 109]⟩⟩,
  ⟨⟨#[115, 119, 114]⟩, 46, 0, ⟨#[116, 109]⟩⟩,
  ⟨⟨#[108, 108]⟩, 48, 0, ⟨#[116, 109]⟩⟩,
  ⟨⟨#[115, 99]⟩, 56, 0, ⟨#[116, 109]⟩⟩,
  ⟨⟨#[114, 111, 116, 114]⟩, 0, 2097154, ⟨#[100, 116, 114]⟩⟩,
  ⟨⟨#[114, 111, 116, 114, 118]⟩, 0, 70, ⟨#[100, 116, 118]⟩⟩]
def rowsA : Array Value := (rowsL.flatMap Rw.cells).toArray
/-- The frame behind it. -/
def rowsEnd (w : World) : Act := { tmps := #[.slice (some ⟨w.heap.size, 0, none⟩) 83 83] ++ (rowsL.map Rw.val).toArray ++ #[.slice (some ⟨w.heap.size, 0, none⟩) 83 83], defers := [] }
set_option maxHeartbeats 2000000 in
theorem rows27 (w : World) : Calls Tryd.prog 67 #[] w fun e w' => e = .returned (.slice (some ⟨w.heap.size, 0, none⟩) 83 83) ∧ w' = w.alloc (.cells rowsA 69) := by
  refine calls_of_wp Tryd.func67 rfl ?_
  refine wp_seq (wp_run (a' := { tmps := #[.slice none 0 0] ++ Array.replicate 84 undef, defers := [] }) (w' := w) (by kernel_rfl) ?_)
  show Code.wp _ _ _ _ _
  refine wp_seq (wp_run (a' := rowsEnd w) (w' := w.alloc (.cells rowsA 69)) (by kernel_rfl) ?_)
  refine wp_ret (bodyPost_ret (v := .slice (some ⟨w.heap.size, 0, none⟩) 83 83) (by kernel_rfl) rfl ⟨rfl, rfl⟩)
end Go.Proofs.YtglkkeelocdanaaDoor
