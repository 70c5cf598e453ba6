/- What is proved here: the small functions of an instruction's shape: trailing noughts, what may stand together. -/
import Derived.Test.YtogokbefpgaciaaDoorBase
namespace Go.Proofs.YtogokbefpgaciaaDoor
open Go.RowKit
set_option linter.unusedVariables false
set_option linter.unusedSimpArgs false
set_option maxRecDepth 100000
/-- The table of trailing noughts, as far as it is read. -/
def Tab (w : World) : Prop := w.cell? ⟨0, 0, none⟩ = some (.int .u8 0) ∧ w.cell? ⟨0, 27, none⟩ = some (.int .u8 6)
theorem Tab.keep {w w' : World} (h : Tab w) (hb : Below w.heap.size w w') : Tab w' := ⟨keep_cell hb h.1, keep_cell hb h.2⟩
/-- The bits of Imm that a form has. -/
def Great (g : Nat) : Prop := g = 0 ∨ g = 67108800 ∨ g = 65535 ∨ g = 67108863
def tzN (g : Nat) : Nat := if g = 0 then 32 else if g = 67108800 then 6 else 0
theorem tz30 (g : Nat) (hg : Great g) (w : World) (ht : Tab w) : Calls Tryd.prog 83 #[.int .u32 (g : Int)] w fun e w' => e = .returned (.int .i64 (tzN g : Int)) ∧ w' = w := by
  obtain ⟨t0, t1⟩ := ht
  have e1 : bits BinOp.and IntKind.u32 67108800 4227858496 = 64 := by decide +kernel
  have e2 : bits BinOp.and IntKind.u32 65535 4294901761 = 1 := by decide +kernel
  have e3 : bits BinOp.and IntKind.u32 67108863 4227858433 = 1 := by decide +kernel
  rcases hg with rfl | rfl | rfl | rfl
  all_goals
    go_enter Tryd.func83, Tryd.ntmps83
    go_wp2
    go_ret
    exact ⟨rfl, rfl⟩
/-- A shape: a row, with the bits of its registers and those of Imm. -/
structure Sh where
  name : ByteArray
  op : Nat
  same : Nat
  form : ByteArray
  few : Nat
  great : Nat
def Sh.val (s : Sh) : Value := .agg #[.string s.name, .int .u32 (s.op : Int), .int .u32 (s.same : Int), .string s.form, .int .u32 (s.few : Int), .int .u32 (s.great : Int)]
/-- An instruction. -/
structure In where
  name : ByteArray
  rs : Int
  rt : Int
  rd : Int
  sa : Int
  imm : Nat
def In.val (i : In) : Value := .agg #[.string i.name, .int .i64 i.rs, .int .i64 i.rt, .int .i64 i.rd, .int .i64 i.sa, .int .u32 (i.imm : Int)]
theorem box6 (w : World) (a b c d e f : Value) (t : Nat) : ∃ W, w.alloc (.cells #[a, b, c, d, e, f] t) = W ∧ Below w.heap.size w W ∧ W.heap.size = w.heap.size + 1 ∧
    W.cell? ⟨w.heap.size, 0, none⟩ = some a ∧ W.cell? ⟨w.heap.size, 1, none⟩ = some b ∧ W.cell? ⟨w.heap.size, 2, none⟩ = some c ∧ W.cell? ⟨w.heap.size, 3, none⟩ = some d ∧ W.cell? ⟨w.heap.size, 4, none⟩ = some e ∧ W.cell? ⟨w.heap.size, 5, none⟩ = some f := by
  refine ⟨_, rfl, (Below.refl _ _).alloc (Nat.le_refl _) _, by simp, ?_, ?_, ?_, ?_, ?_, ?_⟩ <;> exact cell_newA w _ _ _ _ _ rfl rfl
def allowsB (s : Sh) (i : In) : Bool := if s.form.toList == [116, 100] then i.rd == 29 else if s.name.toList == [101, 120, 116] then decide (wrap64 (i.rd + i.sa) ≤ 31) else if s.name.toList == [105, 110, 115] then decide (i.sa ≤ i.rd) else true
theorem allows29 (s : Sh) (i : In) (w : World) : Calls Tryd.prog 85 #[s.val, i.val] w fun e w' => e = .returned (.bool (allowsB s i)) ∧ Below w.heap.size w w' := by
  obtain ⟨name, op, same, form, few, great⟩ := s
  obtain ⟨nm, rs, rt, rd, sa, imm⟩ := i
  simp only [Sh.val, In.val]
  obtain ⟨W, hW, hb, hz, c0, c1, c2, c3, c4, c5⟩ := box6 w (.string name) (.int .u32 (op : Int)) (.int .u32 (same : Int)) (.string form) (.int .u32 (few : Int)) (.int .u32 (great : Int)) 61
  obtain ⟨V, hV, gb, gz, d0, d1, d2, d3, d4, d5⟩ := box6 W (.string nm) (.int .i64 rs) (.int .i64 rt) (.int .i64 rd) (.int .i64 sa) (.int .u32 (imm : Int)) 24
  have HB : Hid (Below w.heap.size w V) := below_tr hb gb
  have c0 := keep_cell gb c0
  have c3 := keep_cell gb c3
  rw [hz] at d0 d1 d2 d3 d4 d5
  clear hb gb gz
  go_enter Tryd.func85, Tryd.ntmps85
  go_wp2
  all_goals (go_ret; exact ⟨by simp [allowsB, *], HB.out⟩)
end Go.Proofs.YtogokbefpgaciaaDoor
