/- What is proved here: what holds of a world that grows: cells stay, places that may be written stay so. -/
import Derived.Test.YtglkkeelocdanaaDoorChecked
import Derived.WalkKit
import Derived.Below
import Derived.Deep.RegionHeld3
import Derived.LoopTactic
import Derived.Laws.ResultCell
import Derived.Test.YtglkkeelocdanaaDoorEach
namespace Go.Proofs.YtglkkeelocdanaaDoor
open Go.RowKit
set_option linter.unusedVariables false
set_option linter.unusedSimpArgs false
set_option maxRecDepth 100000
theorem keep_cell {w w' : World} (h : Below w.heap.size w w') {a : Addr} {v : Value} (hc : w.cell? a = some v) : w'.cell? a = some v :=
  (h.cell (World.block_lt_of_cell? w a hc)).trans hc

theorem below_tr {w w1 w2 : World} (h : Below w.heap.size w w1) (h' : Below w1.heap.size w1 w2) : Below w.heap.size w w2 := h.trans (h'.mono h.size)

theorem keep_frozen {w w' : World} (h : Below w.heap.size w w') {a : Addr} (hc : a.block < w.heap.size) (hf : w.frozen? a = false) : w'.frozen? a = false :=
  (h.frozen hc).trans hf
theorem results_cell1 {fn : Func} {p : Tmp} {ty : TypeId} (h : fn.results = #[.cell p ty]) (tmps : Array Value) (P : Program) (w : World) :
    (results fn tmps).run P w = ((asAddr (tmps.getD p undef)).run P w).andThen fun a w₁ => (loadVar ty a).run P w₁ := by
  simp only [results, h]
  simp [Sem.run_bind, Result.andThen]
theorem cell_newA (W : World) (cs : Array Value) (t n i : Nat) (x : Value) (h : n = W.heap.size) (hx : cs[i]? = some x) : (W.alloc (.cells cs t)).cell? ⟨n, i, none⟩ = some x := by
  subst h; rw [World.cell?_alloc_at _ _ _ _ (by simp)]; exact hx
theorem cell_old {w : World} {a : Addr} {v : Value} (h : w.cell? a = some v) (o : Obj) : (w.alloc o).cell? a = some v := keep_cell ((Below.refl _ _).alloc (Nat.le_refl _) _) h
/-- A place that is there and may be written. -/
def Free (w : World) (a : Addr) : Prop := (∃ u, w.cell? a = some u) ∧ w.frozen? a = false
/-- What a place holds. -/
def cellAt (w : World) (a : Addr) : Value := (w.cell? a).getD undef
theorem Free.cell {w : World} {a : Addr} (h : Free w a) : w.cell? a = some (cellAt w a) := by
  obtain ⟨⟨u, hu⟩, _⟩ := h
  rw [cellAt, hu]; rfl
theorem Free.frozen {w : World} {a : Addr} (h : Free w a) : w.frozen? a = false := h.2
theorem Free.keep {w w' : World} (hb : Below w.heap.size w w') {a : Addr} (h : Free w a) : Free w' a := by
  obtain ⟨⟨u, hu⟩, hf⟩ := h
  exact ⟨⟨u, keep_cell hb hu⟩, keep_frozen hb (World.block_lt_of_cell? w a hu) hf⟩
theorem Free.alloc {w : World} {a : Addr} (h : Free w a) (o : Obj) : Free (w.alloc o) a := h.keep ((Below.refl _ _).alloc (Nat.le_refl _) _)
theorem Free.drew {w : World} {a : Addr} (h : Free w a) : Free w.drew a := h.keep (Below.refl _ _).drew
theorem Free.set {w : World} {a : Addr} (h : Free w a) (p : Addr) (v : Value) : Free (w.setCell p v) a := by
  obtain ⟨⟨u, hu⟩, hf⟩ := h
  refine ⟨?_, by rw [World.frozen?_setCell]; exact hf⟩
  by_cases e : p = a
  · subst e
    exact ⟨v, World.cell?_setCell_same w p v hu⟩
  · exact ⟨u, (World.cell?_setCell_other w p a v e).trans hu⟩
theorem results_cell_tmp {fn : Func} {p u : Tmp} {ty : TypeId} (h : fn.results = #[.cell p ty, .tmp u]) (tmps : Array Value) (P : Program) (w : World) :
    (results fn tmps).run P w = ((asAddr (tmps.getD p undef)).run P w).andThen fun a w₁ => ((loadVar ty a).run P w₁).andThen fun v w₂ => .ok (.tuple #[v, tmps.getD u undef]) w₂ := by
  simp only [results, h]
  simp [Sem.run_bind, Result.andThen]
end Go.Proofs.YtglkkeelocdanaaDoor
namespace Go.Proofs.YtglkkeelocdanaaDoor
open Go.RowKit
set_option linter.unusedVariables false
set_option linter.unusedSimpArgs false
set_option maxRecDepth 100000
/-- The table of trailing noughts, as far as it is read. -/
def Tab (w : World) : Prop := w.cell? ⟨0, 0, none⟩ = some (.int .u8 0) ∧ w.cell? ⟨0, 27, none⟩ = some (.int .u8 6)
theorem Tab.keep {w w' : World} (h : Tab w) (hb : Below w.heap.size w w') : Tab w' := ⟨keep_cell hb h.1, keep_cell hb h.2⟩
/-- The bits of Imm that a form has. -/
def Great (g : Nat) : Prop := g = 0 ∨ g = 67108800 ∨ g = 65535 ∨ g = 67108863
def tzN (g : Nat) : Nat := if g = 0 then 32 else if g = 67108800 then 6 else 0
theorem tz30 (g : Nat) (hg : Great g) (w : World) (ht : Tab w) : Calls Tryd.prog 54 #[.int .u32 (g : Int)] w fun e w' => e = .returned (.int .i64 (tzN g : Int)) ∧ w' = w := by
  obtain ⟨t0, t1⟩ := ht
  have e1 : bits BinOp.and IntKind.u32 67108800 4227858496 = 64 := by decide +kernel
  have e2 : bits BinOp.and IntKind.u32 65535 4294901761 = 1 := by decide +kernel
  have e3 : bits BinOp.and IntKind.u32 67108863 4227858433 = 1 := by decide +kernel
  rcases hg with rfl | rfl | rfl | rfl
  all_goals
    go_enter Tryd.func54, Tryd.ntmps54
    go_wp2
    go_ret
    exact ⟨rfl, rfl⟩
/-- A shape: a row, with the bits of its registers and those of Imm. -/
structure Sh where
  name : ByteArray
  op : Nat
  same : Nat
  form : ByteArray
  few : Nat
  great : Nat
def Sh.val (s : Sh) : Value := .agg #[.string s.name, .int .u32 (s.op : Int), .int .u32 (s.same : Int), .string s.form, .int .u32 (s.few : Int), .int .u32 (s.great : Int)]
/-- An instruction. -/
structure In where
  name : ByteArray
  rs : Int
  rt : Int
  rd : Int
  sa : Int
  imm : Nat
def In.val (i : In) : Value := .agg #[.string i.name, .int .i64 i.rs, .int .i64 i.rt, .int .i64 i.rd, .int .i64 i.sa, .int .u32 (i.imm : Int)]
theorem box6 (w : World) (a b c d e f : Value) (t : Nat) : ∃ W, w.alloc (.cells #[a, b, c, d, e, f] t) = W ∧ Below w.heap.size w W ∧ W.heap.size = w.heap.size + 1 ∧
    W.cell? ⟨w.heap.size, 0, none⟩ = some a ∧ W.cell? ⟨w.heap.size, 1, none⟩ = some b ∧ W.cell? ⟨w.heap.size, 2, none⟩ = some c ∧ W.cell? ⟨w.heap.size, 3, none⟩ = some d ∧ W.cell? ⟨w.heap.size, 4, none⟩ = some e ∧ W.cell? ⟨w.heap.size, 5, none⟩ = some f := by
  refine ⟨_, rfl, (Below.refl _ _).alloc (Nat.le_refl _) _, by simp, ?_, ?_, ?_, ?_, ?_, ?_⟩ <;> exact cell_newA w _ _ _ _ _ rfl rfl
def allowsB (s : Sh) (i : In) : Bool := if s.form.toList == [116, 100] then i.rd == 29 else if s.name.toList == [101, 120, 116] then decide (wrap64 (i.rd + i.sa) ≤ 31) else if s.name.toList == [105, 110, 115] then decide (i.sa ≤ i.rd) else true
theorem allows29 (s : Sh) (i : In) (w : World) : Calls Tryd.prog 56 #[s.val, i.val] w fun e w' => e = .returned (.bool (allowsB s i)) ∧ Below w.heap.size w w' := by
  obtain ⟨name, op, same, form, few, great⟩ := s
  obtain ⟨nm, rs, rt, rd, sa, imm⟩ := i
  simp only [Sh.val, In.val]
  obtain ⟨W, hW, hb, hz, c0, c1, c2, c3, c4, c5⟩ := box6 w (.string name) (.int .u32 (op : Int)) (.int .u32 (same : Int)) (.string form) (.int .u32 (few : Int)) (.int .u32 (great : Int)) 75
  obtain ⟨V, hV, gb, gz, d0, d1, d2, d3, d4, d5⟩ := box6 W (.string nm) (.int .i64 rs) (.int .i64 rt) (.int .i64 rd) (.int .i64 sa) (.int .u32 (imm : Int)) 29
  have HB : Hid (Below w.heap.size w V) := below_tr hb gb
  have c0 := keep_cell gb c0
  have c3 := keep_cell gb c3
  rw [hz] at d0 d1 d2 d3 d4 d5
  clear hb gb gz
  go_enter Tryd.func56, Tryd.ntmps56
  go_wp2
  all_goals (go_ret; exact ⟨by simp [allowsB, *], HB.out⟩)
end Go.Proofs.YtglkkeelocdanaaDoor
