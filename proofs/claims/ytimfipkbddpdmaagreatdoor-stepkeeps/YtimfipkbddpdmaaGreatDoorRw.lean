import Derived.Test.YtimfipkbddpdmaaGreatDoorVals
import Derived.Lib.OthersKept
import Derived.WalkSmall
set_option linter.unusedVariables false
set_option linter.unusedSimpArgs false
set_option maxRecDepth 100000
open Go Go.RowKit
namespace Go.Proofs.YtimfipkbddpdmaaGreatDoor
theorem upd_new (w : World) (es : Array MapEntry) (clk : Nat) (k : Int) (v : Value) (hn : Instr.findNow (.int .i32) (.int .i32 k) es.toList 0 = some none) :
  (Instr.mapUpdate 130 (.map (some w.heap.size)) (.int .i32 k) v).run Tryz.prog (w.alloc (.map es clk)) = .ok () (w.alloc (.map (es.push ⟨.int .i32 k, v, clk⟩) (clk + 1))) := by
 have h1 := (MapKept.heap_alloc w (.map es clk)).1
 have h2 : ({ w.alloc (.map es clk) with heap := (w.alloc (.map es clk)).heap.setIfInBounds w.heap.size (.map (es.push ⟨.int .i32 k, v, clk⟩) (clk + 1)) } : World) = w.alloc (.map (es.push ⟨.int .i32 k, v, clk⟩) (clk + 1)) := by
  show ({ w with heap := (w.heap.push (.map es clk)).setIfInBounds w.heap.size (.map (es.push ⟨.int .i32 k, v, clk⟩) (clk + 1)) } : World) = { w with heap := w.heap.push (.map (es.push ⟨.int .i32 k, v, clk⟩) (clk + 1)) }
  congr 1
  apply Array.ext'
  simp [Array.setIfInBounds, Array.toList_push]
 have u38 : Tryz.prog.underlying 130 = some (.map 21 137) := by kernel_rfl
 have u21 : Tryz.prog.underlying 21 = some (.int .i32) := by kernel_rfl
 have hc : (Instr.checkKey false 10000 21 (.int .i32 k)).run Tryz.prog (w.alloc (.map es clk)) = .ok () (w.alloc (.map es clk)) := MapKept.run_checkKey (k := .int .i32 k) u21 (by simp [MapKept.IsKey]) false 9999
 generalize w.alloc (.map es clk) = W at h1 h2 hc |-
 simp [Instr.mapUpdate, run_underlying u38, MapKept.run_getObj_map h1, hc, MapKept.run_findKey u21 hn, MapKept.run_setObj_map _ h1, Result.andThen, h2]
def letL : List (Nat × Nat × Nat) := [(115, 65011712, 0), (118, 65011712, 0), (116, 2031616, 0), (100, 63488, 0), (97, 1984, 0), (114, 1984, 0), (120, 65472, 0), (99, 0, 67108800), (106, 0, 67108863), (111, 0, 65535), (105, 0, 65535), (109, 65011712, 65535)]
def letV (x : Nat × Nat) : Value := .agg #[.int .u32 x.1, .int .u32 x.2]
def letE : Array MapEntry := (letL.zipIdx.map (fun x => (⟨.int .i32 x.1.1, letV x.1.2, x.2⟩ : MapEntry))).toArray
def LetM (w : World) (b : Nat) : Prop := w.heap[b]? = some (.map letE 12)
theorem LetM.keep {w w' : World} {b : Nat} (h : LetM w b) (hb : Below w.heap.size w w') : LetM w' b := by
 have hl : b < w.heap.size := by
  rcases Nat.lt_or_ge b w.heap.size with h' | h'
  ·exact h'
  ·unfold LetM at h; rw [Array.getElem?_eq_none h'] at h; cases h
 unfold LetM
 rw [hb.block b hl]
 exact h
theorem look (w : World) (b : Nat) (h : LetM w b) (k i : Nat) (x : Nat × Nat) (hn : Instr.findNow (.int .i32) (.int .i32 k) letE.toList 0 = some (some (i, letV x))) : (Instr.lookup 130 (.map (some b)) (.int .i32 k) false).run Tryz.prog w = .ok (letV x) w := by
 have u38 : Tryz.prog.underlying 130 = some (.map 21 137) := by kernel_rfl
 have u21 : Tryz.prog.underlying 21 = some (.int .i32) := by kernel_rfl
 have h' : w.heap[b]? = some (.map letE 12) := h
 have hc : ∀ e, (Instr.checkKey e 10000 21 (.int .i32 k)).run Tryz.prog w = .ok () w := fun e => MapKept.run_checkKey (k := .int .i32 k) u21 (by simp [MapKept.IsKey]) e 9999
 simp [Instr.lookup, run_underlying u38, MapKept.run_getObj_map h', hc, MapKept.run_findKey u21 hn, Result.andThen]
set_option maxHeartbeats 1000000 in
theorem letters15 (w : World) : Calls Tryz.prog 73 #[] w fun e w' => e = .returned (.map (some w.heap.size)) /\ Below w.heap.size w w' /\ LetM w' w.heap.size := by
 have hmm := @run_makeMap Tryz.prog
 have u0 : (Instr.mapUpdate 130 (.map (some w.heap.size)) (.int .i32 115) (.agg #[.int .u32 65011712, .int .u32 0])).run Tryz.prog (w.alloc (.map #[] 0)) = .ok () (w.alloc (.map #[⟨.int .i32 115, .agg #[.int .u32 65011712, .int .u32 0], 0⟩] 1)) := upd_new w _ _ _ _ rfl
 have u1 : (Instr.mapUpdate 130 (.map (some w.heap.size)) (.int .i32 118) (.agg #[.int .u32 65011712, .int .u32 0])).run Tryz.prog (w.alloc (.map #[⟨.int .i32 115, .agg #[.int .u32 65011712, .int .u32 0], 0⟩] 1)) = .ok () (w.alloc (.map #[⟨.int .i32 115, .agg #[.int .u32 65011712, .int .u32 0], 0⟩, ⟨.int .i32 118, .agg #[.int .u32 65011712, .int .u32 0], 1⟩] 2)) := upd_new w _ _ _ _ rfl
 have u2 : (Instr.mapUpdate 130 (.map (some w.heap.size)) (.int .i32 116) (.agg #[.int .u32 2031616, .int .u32 0])).run Tryz.prog (w.alloc (.map #[⟨.int .i32 115, .agg #[.int .u32 65011712, .int .u32 0], 0⟩, ⟨.int .i32 118, .agg #[.int .u32 65011712, .int .u32 0], 1⟩] 2)) = .ok () (w.alloc (.map #[⟨.int .i32 115, .agg #[.int .u32 65011712, .int .u32 0], 0⟩, ⟨.int .i32 118, .agg #[.int .u32 65011712, .int .u32 0], 1⟩, ⟨.int .i32 116, .agg #[.int .u32 2031616, .int .u32 0], 2⟩] 3)) := upd_new w _ _ _ _ rfl
 have u3 : (Instr.mapUpdate 130 (.map (some w.heap.size)) (.int .i32 100) (.agg #[.int .u32 63488, .int .u32 0])).run Tryz.prog (w.alloc (.map #[⟨.int .i32 115, .agg #[.int .u32 65011712, .int .u32 0], 0⟩, ⟨.int .i32 118, .agg #[.int .u32 65011712, .int .u32 0], 1⟩, ⟨.int .i32 116, .agg #[.int .u32 2031616, .int .u32 0], 2⟩] 3)) = .ok () (w.alloc (.map #[⟨.int .i32 115, .agg #[.int .u32 65011712, .int .u32 0], 0⟩, ⟨.int .i32 118, .agg #[.int .u32 65011712, .int .u32 0], 1⟩, ⟨.int .i32 116, .agg #[.int .u32 2031616, .int .u32 0], 2⟩, ⟨.int .i32 100, .agg #[.int .u32 63488, .int .u32 0], 3⟩] 4)) := upd_new w _ _ _ _ rfl
 have u4 : (Instr.mapUpdate 130 (.map (some w.heap.size)) (.int .i32 97) (.agg #[.int .u32 1984, .int .u32 0])).run Tryz.prog (w.alloc (.map #[⟨.int .i32 115, .agg #[.int .u32 65011712, .int .u32 0], 0⟩, ⟨.int .i32 118, .agg #[.int .u32 65011712, .int .u32 0], 1⟩, ⟨.int .i32 116, .agg #[.int .u32 2031616, .int .u32 0], 2⟩, ⟨.int .i32 100, .agg #[.int .u32 63488, .int .u32 0], 3⟩] 4)) = .ok () (w.alloc (.map #[⟨.int .i32 115, .agg #[.int .u32 65011712, .int .u32 0], 0⟩, ⟨.int .i32 118, .agg #[.int .u32 65011712, .int .u32 0], 1⟩, ⟨.int .i32 116, .agg #[.int .u32 2031616, .int .u32 0], 2⟩, ⟨.int .i32 100, .agg #[.int .u32 63488, .int .u32 0], 3⟩, ⟨.int .i32 97, .agg #[.int .u32 1984, .int .u32 0], 4⟩] 5)) := upd_new w _ _ _ _ rfl
 have u5 : (Instr.mapUpdate 130 (.map (some w.heap.size)) (.int .i32 114) (.agg #[.int .u32 1984, .int .u32 0])).run Tryz.prog (w.alloc (.map #[⟨.int .i32 115, .agg #[.int .u32 65011712, .int .u32 0], 0⟩, ⟨.int .i32 118, .agg #[.int .u32 65011712, .int .u32 0], 1⟩, ⟨.int .i32 116, .agg #[.int .u32 2031616, .int .u32 0], 2⟩, ⟨.int .i32 100, .agg #[.int .u32 63488, .int .u32 0], 3⟩, ⟨.int .i32 97, .agg #[.int .u32 1984, .int .u32 0], 4⟩] 5)) = .ok () (w.alloc (.map #[⟨.int .i32 115, .agg #[.int .u32 65011712, .int .u32 0], 0⟩, ⟨.int .i32 118, .agg #[.int .u32 65011712, .int .u32 0], 1⟩, ⟨.int .i32 116, .agg #[.int .u32 2031616, .int .u32 0], 2⟩, ⟨.int .i32 100, .agg #[.int .u32 63488, .int .u32 0], 3⟩, ⟨.int .i32 97, .agg #[.int .u32 1984, .int .u32 0], 4⟩, ⟨.int .i32 114, .agg #[.int .u32 1984, .int .u32 0], 5⟩] 6)) := upd_new w _ _ _ _ rfl
 have u6 : (Instr.mapUpdate 130 (.map (some w.heap.size)) (.int .i32 120) (.agg #[.int .u32 65472, .int .u32 0])).run Tryz.prog (w.alloc (.map #[⟨.int .i32 115, .agg #[.int .u32 65011712, .int .u32 0], 0⟩, ⟨.int .i32 118, .agg #[.int .u32 65011712, .int .u32 0], 1⟩, ⟨.int .i32 116, .agg #[.int .u32 2031616, .int .u32 0], 2⟩, ⟨.int .i32 100, .agg #[.int .u32 63488, .int .u32 0], 3⟩, ⟨.int .i32 97, .agg #[.int .u32 1984, .int .u32 0], 4⟩, ⟨.int .i32 114, .agg #[.int .u32 1984, .int .u32 0], 5⟩] 6)) = .ok () (w.alloc (.map #[⟨.int .i32 115, .agg #[.int .u32 65011712, .int .u32 0], 0⟩, ⟨.int .i32 118, .agg #[.int .u32 65011712, .int .u32 0], 1⟩, ⟨.int .i32 116, .agg #[.int .u32 2031616, .int .u32 0], 2⟩, ⟨.int .i32 100, .agg #[.int .u32 63488, .int .u32 0], 3⟩, ⟨.int .i32 97, .agg #[.int .u32 1984, .int .u32 0], 4⟩, ⟨.int .i32 114, .agg #[.int .u32 1984, .int .u32 0], 5⟩, ⟨.int .i32 120, .agg #[.int .u32 65472, .int .u32 0], 6⟩] 7)) := upd_new w _ _ _ _ rfl
 have u7 : (Instr.mapUpdate 130 (.map (some w.heap.size)) (.int .i32 99) (.agg #[.int .u32 0, .int .u32 67108800])).run Tryz.prog (w.alloc (.map #[⟨.int .i32 115, .agg #[.int .u32 65011712, .int .u32 0], 0⟩, ⟨.int .i32 118, .agg #[.int .u32 65011712, .int .u32 0], 1⟩, ⟨.int .i32 116, .agg #[.int .u32 2031616, .int .u32 0], 2⟩, ⟨.int .i32 100, .agg #[.int .u32 63488, .int .u32 0], 3⟩, ⟨.int .i32 97, .agg #[.int .u32 1984, .int .u32 0], 4⟩, ⟨.int .i32 114, .agg #[.int .u32 1984, .int .u32 0], 5⟩, ⟨.int .i32 120, .agg #[.int .u32 65472, .int .u32 0], 6⟩] 7)) = .ok () (w.alloc (.map #[⟨.int .i32 115, .agg #[.int .u32 65011712, .int .u32 0], 0⟩, ⟨.int .i32 118, .agg #[.int .u32 65011712, .int .u32 0], 1⟩, ⟨.int .i32 116, .agg #[.int .u32 2031616, .int .u32 0], 2⟩, ⟨.int .i32 100, .agg #[.int .u32 63488, .int .u32 0], 3⟩, ⟨.int .i32 97, .agg #[.int .u32 1984, .int .u32 0], 4⟩, ⟨.int .i32 114, .agg #[.int .u32 1984, .int .u32 0], 5⟩, ⟨.int .i32 120, .agg #[.int .u32 65472, .int .u32 0], 6⟩, ⟨.int .i32 99, .agg #[.int .u32 0, .int .u32 67108800], 7⟩] 8)) := upd_new w _ _ _ _ rfl
 have u8 : (Instr.mapUpdate 130 (.map (some w.heap.size)) (.int .i32 106) (.agg #[.int .u32 0, .int .u32 67108863])).run Tryz.prog (w.alloc (.map #[⟨.int .i32 115, .agg #[.int .u32 65011712, .int .u32 0], 0⟩, ⟨.int .i32 118, .agg #[.int .u32 65011712, .int .u32 0], 1⟩, ⟨.int .i32 116, .agg #[.int .u32 2031616, .int .u32 0], 2⟩, ⟨.int .i32 100, .agg #[.int .u32 63488, .int .u32 0], 3⟩, ⟨.int .i32 97, .agg #[.int .u32 1984, .int .u32 0], 4⟩, ⟨.int .i32 114, .agg #[.int .u32 1984, .int .u32 0], 5⟩, ⟨.int .i32 120, .agg #[.int .u32 65472, .int .u32 0], 6⟩, ⟨.int .i32 99, .agg #[.int .u32 0, .int .u32 67108800], 7⟩] 8)) = .ok () (w.alloc (.map #[⟨.int .i32 115, .agg #[.int .u32 65011712, .int .u32 0], 0⟩, ⟨.int .i32 118, .agg #[.int .u32 65011712, .int .u32 0], 1⟩, ⟨.int .i32 116, .agg #[.int .u32 2031616, .int .u32 0], 2⟩, ⟨.int .i32 100, .agg #[.int .u32 63488, .int .u32 0], 3⟩, ⟨.int .i32 97, .agg #[.int .u32 1984, .int .u32 0], 4⟩, ⟨.int .i32 114, .agg #[.int .u32 1984, .int .u32 0], 5⟩, ⟨.int .i32 120, .agg #[.int .u32 65472, .int .u32 0], 6⟩, ⟨.int .i32 99, .agg #[.int .u32 0, .int .u32 67108800], 7⟩, ⟨.int .i32 106, .agg #[.int .u32 0, .int .u32 67108863], 8⟩] 9)) := upd_new w _ _ _ _ rfl
 have u9 : (Instr.mapUpdate 130 (.map (some w.heap.size)) (.int .i32 111) (.agg #[.int .u32 0, .int .u32 65535])).run Tryz.prog (w.alloc (.map #[⟨.int .i32 115, .agg #[.int .u32 65011712, .int .u32 0], 0⟩, ⟨.int .i32 118, .agg #[.int .u32 65011712, .int .u32 0], 1⟩, ⟨.int .i32 116, .agg #[.int .u32 2031616, .int .u32 0], 2⟩, ⟨.int .i32 100, .agg #[.int .u32 63488, .int .u32 0], 3⟩, ⟨.int .i32 97, .agg #[.int .u32 1984, .int .u32 0], 4⟩, ⟨.int .i32 114, .agg #[.int .u32 1984, .int .u32 0], 5⟩, ⟨.int .i32 120, .agg #[.int .u32 65472, .int .u32 0], 6⟩, ⟨.int .i32 99, .agg #[.int .u32 0, .int .u32 67108800], 7⟩, ⟨.int .i32 106, .agg #[.int .u32 0, .int .u32 67108863], 8⟩] 9)) = .ok () (w.alloc (.map #[⟨.int .i32 115, .agg #[.int .u32 65011712, .int .u32 0], 0⟩, ⟨.int .i32 118, .agg #[.int .u32 65011712, .int .u32 0], 1⟩, ⟨.int .i32 116, .agg #[.int .u32 2031616, .int .u32 0], 2⟩, ⟨.int .i32 100, .agg #[.int .u32 63488, .int .u32 0], 3⟩, ⟨.int .i32 97, .agg #[.int .u32 1984, .int .u32 0], 4⟩, ⟨.int .i32 114, .agg #[.int .u32 1984, .int .u32 0], 5⟩, ⟨.int .i32 120, .agg #[.int .u32 65472, .int .u32 0], 6⟩, ⟨.int .i32 99, .agg #[.int .u32 0, .int .u32 67108800], 7⟩, ⟨.int .i32 106, .agg #[.int .u32 0, .int .u32 67108863], 8⟩, ⟨.int .i32 111, .agg #[.int .u32 0, .int .u32 65535], 9⟩] 10)) := upd_new w _ _ _ _ rfl
 have u10 : (Instr.mapUpdate 130 (.map (some w.heap.size)) (.int .i32 105) (.agg #[.int .u32 0, .int .u32 65535])).run Tryz.prog (w.alloc (.map #[⟨.int .i32 115, .agg #[.int .u32 65011712, .int .u32 0], 0⟩, ⟨.int .i32 118, .agg #[.int .u32 65011712, .int .u32 0], 1⟩, ⟨.int .i32 116, .agg #[.int .u32 2031616, .int .u32 0], 2⟩, ⟨.int .i32 100, .agg #[.int .u32 63488, .int .u32 0], 3⟩, ⟨.int .i32 97, .agg #[.int .u32 1984, .int .u32 0], 4⟩, ⟨.int .i32 114, .agg #[.int .u32 1984, .int .u32 0], 5⟩, ⟨.int .i32 120, .agg #[.int .u32 65472, .int .u32 0], 6⟩, ⟨.int .i32 99, .agg #[.int .u32 0, .int .u32 67108800], 7⟩, ⟨.int .i32 106, .agg #[.int .u32 0, .int .u32 67108863], 8⟩, ⟨.int .i32 111, .agg #[.int .u32 0, .int .u32 65535], 9⟩] 10)) = .ok () (w.alloc (.map #[⟨.int .i32 115, .agg #[.int .u32 65011712, .int .u32 0], 0⟩, ⟨.int .i32 118, .agg #[.int .u32 65011712, .int .u32 0], 1⟩, ⟨.int .i32 116, .agg #[.int .u32 2031616, .int .u32 0], 2⟩, ⟨.int .i32 100, .agg #[.int .u32 63488, .int .u32 0], 3⟩, ⟨.int .i32 97, .agg #[.int .u32 1984, .int .u32 0], 4⟩, ⟨.int .i32 114, .agg #[.int .u32 1984, .int .u32 0], 5⟩, ⟨.int .i32 120, .agg #[.int .u32 65472, .int .u32 0], 6⟩, ⟨.int .i32 99, .agg #[.int .u32 0, .int .u32 67108800], 7⟩, ⟨.int .i32 106, .agg #[.int .u32 0, .int .u32 67108863], 8⟩, ⟨.int .i32 111, .agg #[.int .u32 0, .int .u32 65535], 9⟩, ⟨.int .i32 105, .agg #[.int .u32 0, .int .u32 65535], 10⟩] 11)) := upd_new w _ _ _ _ rfl
 have u11 : (Instr.mapUpdate 130 (.map (some w.heap.size)) (.int .i32 109) (.agg #[.int .u32 65011712, .int .u32 65535])).run Tryz.prog (w.alloc (.map #[⟨.int .i32 115, .agg #[.int .u32 65011712, .int .u32 0], 0⟩, ⟨.int .i32 118, .agg #[.int .u32 65011712, .int .u32 0], 1⟩, ⟨.int .i32 116, .agg #[.int .u32 2031616, .int .u32 0], 2⟩, ⟨.int .i32 100, .agg #[.int .u32 63488, .int .u32 0], 3⟩, ⟨.int .i32 97, .agg #[.int .u32 1984, .int .u32 0], 4⟩, ⟨.int .i32 114, .agg #[.int .u32 1984, .int .u32 0], 5⟩, ⟨.int .i32 120, .agg #[.int .u32 65472, .int .u32 0], 6⟩, ⟨.int .i32 99, .agg #[.int .u32 0, .int .u32 67108800], 7⟩, ⟨.int .i32 106, .agg #[.int .u32 0, .int .u32 67108863], 8⟩, ⟨.int .i32 111, .agg #[.int .u32 0, .int .u32 65535], 9⟩, ⟨.int .i32 105, .agg #[.int .u32 0, .int .u32 65535], 10⟩] 11)) = .ok () (w.alloc (.map #[⟨.int .i32 115, .agg #[.int .u32 65011712, .int .u32 0], 0⟩, ⟨.int .i32 118, .agg #[.int .u32 65011712, .int .u32 0], 1⟩, ⟨.int .i32 116, .agg #[.int .u32 2031616, .int .u32 0], 2⟩, ⟨.int .i32 100, .agg #[.int .u32 63488, .int .u32 0], 3⟩, ⟨.int .i32 97, .agg #[.int .u32 1984, .int .u32 0], 4⟩, ⟨.int .i32 114, .agg #[.int .u32 1984, .int .u32 0], 5⟩, ⟨.int .i32 120, .agg #[.int .u32 65472, .int .u32 0], 6⟩, ⟨.int .i32 99, .agg #[.int .u32 0, .int .u32 67108800], 7⟩, ⟨.int .i32 106, .agg #[.int .u32 0, .int .u32 67108863], 8⟩, ⟨.int .i32 111, .agg #[.int .u32 0, .int .u32 65535], 9⟩, ⟨.int .i32 105, .agg #[.int .u32 0, .int .u32 65535], 10⟩, ⟨.int .i32 109, .agg #[.int .u32 65011712, .int .u32 65535], 11⟩] 12)) := upd_new w _ _ _ _ rfl
 go_enter Tryz.func73, Tryz.ntmps73
 go_wp2
 go_ret
 refine ⟨rfl, (Below.refl _ _).alloc (Nat.le_refl _) _, ?_⟩
 exact (MapKept.heap_alloc w _).1
def runOps (P : Program) (ops : Array Oper) : List Nat -> Act -> World -> Option (Act × World)
 | [], a, w => some (a, w)
 | i :: rest, a, w =>
  match ops[i]? with
  | none => none
  | some o =>
   match Region.wanted o (yielded ops a.tmps) with
   | false => none
   | true =>
    match (execOp a.eval o).run P w with
    | .ok (.value v) w' => runOps P ops rest (a.put o.dst v) w'
    | .ok .skip w' => runOps P ops rest (a.put o.dst undef) w'
    | _ => none
theorem wpOps_of_run {P : Program} {ops : Array Oper} {Q : Exit -> Act -> World -> Prop} : ∀ (l : List Nat) (a : Act) (w : World) (a' : Act) (w' : World), runOps P ops l a w = some (a', w') -> Q .normal a' w' -> wpOps P ops Q l a w
 | [], a, w, a', w', h, hq => by
  unfold runOps at h; cases h
  unfold wpOps; exact hq
 | i :: rest, a, w, a', w', h, hq => by
  unfold runOps at h
  unfold wpOps
  cases ho : ops[i]? with
  | none => simp [ho] at h
  | some o =>
   simp only [ho] at h |-
   cases hw : Region.wanted o (yielded ops a.tmps) with
   | false => simp [hw] at h
   | true =>
    simp only [hw] at h |-
    rw [if_pos trivial]
    refine .inl ?_
    unfold Oper.wp
    cases hr : (execOp a.eval o).run P w with
    | ok x w2 =>
     cases x with
     | value v => simp only [hr] at h; exact wpOps_of_run rest _ _ _ _ h hq
     | skip => simp only [hr] at h; exact wpOps_of_run rest _ _ _ _ h hq
     | _ => simp [hr] at h
    | _ => simp [hr] at h
theorem wp_run {P : Program} {id : Nat} {ops : Array Oper} {Q : Exit -> Act -> World -> Prop} {a : Act} {w : World} {a' : Act} {w' : World} (h : runOps P ops (List.range ops.size) a w = some (a', w')) (hq : Q .normal a' w') : (Code.region id ops false).wp P Q a w := wp_region (wpOps_of_run _ _ _ _ _ h hq)
structure Rw where
 name : ByteArray
 op : Nat
 same : Nat
 form : ByteArray
def Rw.cells (r : Rw) : List Value := [.string r.name, .int .u32 r.op, .int .u32 r.same, .string r.form]
def Rw.val (r : Rw) : Value := .agg #[.string r.name, .int .u32 r.op, .int .u32 r.same, .string r.form]
def rowsL : List Rw := [⟨⟨#[115, 108, 108]⟩, 0, 0, ⟨#[100, 116, 97]⟩⟩,
 ⟨⟨#[115, 114, 108]⟩, 0, 2, ⟨#[100, 116, 97]⟩⟩,
 ⟨⟨#[115, 114, 97]⟩, 0, 3, ⟨#[100, 116, 97]⟩⟩,
 ⟨⟨#[115, 108, 108, 118]⟩, 0, 4, ⟨#[100, 116, 115]⟩⟩,
 ⟨⟨#[115, 114, 108, 118]⟩, 0, 6, ⟨#[100, 116, 115]⟩⟩,
 ⟨⟨#[115, 114, 97, 118]⟩, 0, 7, ⟨#[100, 116, 115]⟩⟩,
 ⟨⟨#[106, 114]⟩, 0, 8, ⟨#[115]⟩⟩,
 ⟨⟨#[106, 97, 108, 114]⟩, 0, 9, ⟨#[100, 115]⟩⟩,
 ⟨⟨#[109, 111, 118, 122]⟩, 0, 10, ⟨#[100, 115, 116]⟩⟩,
 ⟨⟨#[109, 111, 118, 110]⟩, 0, 11, ⟨#[100, 115, 116]⟩⟩,
 ⟨⟨#[115, 121, 115, 99, 97, 108, 108]⟩, 0, 12, ⟨#[99]⟩⟩,
 ⟨⟨#[98, 114, 101, 97, 107]⟩, 0, 13, ⟨#[99]⟩⟩,
 ⟨⟨#[109, 102, 104, 105]⟩, 0, 16, ⟨#[100]⟩⟩,
 ⟨⟨#[109, 116, 104, 105]⟩, 0, 17, ⟨#[115]⟩⟩,
 ⟨⟨#[109, 102, 108, 111]⟩, 0, 18, ⟨#[100]⟩⟩,
 ⟨⟨#[109, 116, 108, 111]⟩, 0, 19, ⟨#[115]⟩⟩,
 ⟨⟨#[109, 117, 108, 116]⟩, 0, 24, ⟨#[115, 116]⟩⟩,
 ⟨⟨#[109, 117, 108, 116, 117]⟩, 0, 25, ⟨#[115, 116]⟩⟩,
 ⟨⟨#[100, 105, 118]⟩, 0, 26, ⟨#[115, 116]⟩⟩,
 ⟨⟨#[100, 105, 118, 117]⟩, 0, 27, ⟨#[115, 116]⟩⟩,
 ⟨⟨#[97, 100, 100]⟩, 0, 32, ⟨#[100, 115, 116]⟩⟩,
 ⟨⟨#[97, 100, 100, 117]⟩, 0, 33, ⟨#[100, 115, 116]⟩⟩,
 ⟨⟨#[115, 117, 98]⟩, 0, 34, ⟨#[100, 115, 116]⟩⟩,
 ⟨⟨#[115, 117, 98, 117]⟩, 0, 35, ⟨#[100, 115, 116]⟩⟩,
 ⟨⟨#[97, 110, 100]⟩, 0, 36, ⟨#[100, 115, 116]⟩⟩,
 ⟨⟨#[111, 114]⟩, 0, 37, ⟨#[100, 115, 116]⟩⟩,
 ⟨⟨#[120, 111, 114]⟩, 0, 38, ⟨#[100, 115, 116]⟩⟩,
 ⟨⟨#[110, 111, 114]⟩, 0, 39, ⟨#[100, 115, 116]⟩⟩,
 ⟨⟨#[115, 108, 116]⟩, 0, 42, ⟨#[100, 115, 116]⟩⟩,
 ⟨⟨#[115, 108, 116, 117]⟩, 0, 43, ⟨#[100, 115, 116]⟩⟩,
 ⟨⟨#[116, 103, 101]⟩, 0, 48, ⟨#[115, 116]⟩⟩,
 ⟨⟨#[116, 103, 101, 117]⟩, 0, 49, ⟨#[115, 116]⟩⟩,
 ⟨⟨#[116, 108, 116]⟩, 0, 50, ⟨#[115, 116]⟩⟩,
 ⟨⟨#[116, 108, 116, 117]⟩, 0, 51, ⟨#[115, 116]⟩⟩,
 ⟨⟨#[116, 101, 113]⟩, 0, 52, ⟨#[115, 116]⟩⟩,
 ⟨⟨#[116, 110, 101]⟩, 0, 54, ⟨#[115, 116]⟩⟩,
 ⟨⟨#[98, 108, 116, 122]⟩, 1, 0, ⟨#[115, 111]⟩⟩,
 ⟨⟨#[98, 103, 101, 122]⟩, 1, 65536, ⟨#[115, 111]⟩⟩,
 ⟨⟨#[98, 108, 116, 122, 97, 108]⟩, 1, 1048576, ⟨#[115, 111]⟩⟩,
 ⟨⟨#[98, 103, 101, 122, 97, 108]⟩, 1, 1114112, ⟨#[115, 111]⟩⟩,
 ⟨⟨#[106]⟩, 2, 0, ⟨#[106]⟩⟩,
 ⟨⟨#[106, 97, 108]⟩, 3, 0, ⟨#[106]⟩⟩,
 ⟨⟨#[98, 101, 113]⟩, 4, 0, ⟨#[115, 116, 111]⟩⟩,
 ⟨⟨#[98, 110, 101]⟩, 5, 0, ⟨#[115, 116, 111]⟩⟩,
 ⟨⟨#[98, 108, 101, 122]⟩, 6, 0, ⟨#[115, 111]⟩⟩,
 ⟨⟨#[98, 103, 116, 122]⟩, 7, 0, ⟨#[115, 111]⟩⟩,
 ⟨⟨#[97, 100, 100, 105]⟩, 8, 0, ⟨#[116, 115, 105]⟩⟩,
 ⟨⟨#[97, 100, 100, 105, 117]⟩, 9, 0, ⟨#[116, 115, 105]⟩⟩,
 ⟨⟨#[115, 108, 116, 105]⟩, 10, 0, ⟨#[116, 115, 105]⟩⟩,
 ⟨⟨#[115, 108, 116, 105, 117]⟩, 11, 0, ⟨#[116, 115, 105]⟩⟩,
 ⟨⟨#[97, 110, 100, 105]⟩, 12, 0, ⟨#[116, 115, 105]⟩⟩,
 ⟨⟨#[111, 114, 105]⟩, 13, 0, ⟨#[116, 115, 105]⟩⟩,
 ⟨⟨#[120, 111, 114, 105]⟩, 14, 0, ⟨#[116, 115, 105]⟩⟩,
 ⟨⟨#[108, 117, 105]⟩, 15, 0, ⟨#[116, 105]⟩⟩,
 ⟨⟨#[109, 97, 100, 100]⟩, 28, 0, ⟨#[115, 116]⟩⟩,
 ⟨⟨#[109, 97, 100, 100, 117]⟩, 28, 1, ⟨#[115, 116]⟩⟩,
 ⟨⟨#[109, 117, 108]⟩, 28, 2, ⟨#[100, 115, 116]⟩⟩,
 ⟨⟨#[109, 115, 117, 98]⟩, 28, 4, ⟨#[115, 116]⟩⟩,
 ⟨⟨#[109, 115, 117, 98, 117]⟩, 28, 5, ⟨#[115, 116]⟩⟩,
 ⟨⟨#[99, 108, 122]⟩, 28, 32, ⟨#[100, 115, 100]⟩⟩,
 ⟨⟨#[99, 108, 111]⟩, 28, 33, ⟨#[100, 115, 100]⟩⟩,
 ⟨⟨#[101, 120, 116]⟩, 31, 0, ⟨#[116, 115, 120]⟩⟩,
 ⟨⟨#[105, 110, 115]⟩, 31, 4, ⟨#[116, 115, 120]⟩⟩,
 ⟨⟨#[119, 115, 98, 104]⟩, 31, 160, ⟨#[100, 116]⟩⟩,
 ⟨⟨#[115, 101, 98]⟩, 31, 1056, ⟨#[100, 116]⟩⟩,
 ⟨⟨#[115, 101, 104]⟩, 31, 1568, ⟨#[100, 116]⟩⟩,
 ⟨⟨#[114, 100, 104, 119, 114]⟩, 31, 59, ⟨#[116, 100]⟩⟩,
 ⟨⟨#[108, 98]⟩, 32, 0, ⟨#[116, 109]⟩⟩,
 ⟨⟨#[108, 104]⟩, 33, 0, ⟨#[116, 109]⟩⟩,
 ⟨⟨#[108, 119, 108]⟩, 34, 0, ⟨#[116, 109]⟩⟩,
 ⟨⟨#[108, 119]⟩, 35, 0, ⟨#[116, 109]⟩⟩,
 ⟨⟨#[108, 98, 117]⟩, 36, 0, ⟨#[116, 109]⟩⟩,
 ⟨⟨#[108, 104, 117]⟩, 37, 0, ⟨#[116, 109]⟩⟩,
 ⟨⟨#[108, 119, 114]⟩, 38, 0, ⟨#[116, 109]⟩⟩,
 ⟨⟨#[115, 98]⟩, 40, 0, ⟨#[116, 109]⟩⟩,
 ⟨⟨#[115, 104]⟩, 41, 0, ⟨#[116, 109]⟩⟩,
 ⟨⟨#[115, 119, 108]⟩, 42, 0, ⟨#[116, 109]⟩⟩,
 ⟨⟨#[115, 119]⟩, 43, 0, ⟨#[116, 109]⟩⟩,
 ⟨⟨#[115, 119, 114]⟩, 46, 0, ⟨#[116, 109]⟩⟩,
 ⟨⟨#[108, 108]⟩, 48, 0, ⟨#[116, 109]⟩⟩,
 ⟨⟨#[115, 99]⟩, 56, 0, ⟨#[116, 109]⟩⟩,
 ⟨⟨#[114, 111, 116, 114]⟩, 0, 2097154, ⟨#[100, 116, 114]⟩⟩,
 ⟨⟨#[114, 111, 116, 114, 118]⟩, 0, 70, ⟨#[100, 116, 118]⟩⟩]
def rowsA : Array Value := (rowsL.flatMap Rw.cells).toArray
def rowsEnd (w : World) : Act := { tmps := #[.slice (some ⟨w.heap.size, 0, none⟩) 83 83] ++ (rowsL.map Rw.val).toArray ++ #[.slice (some ⟨w.heap.size, 0, none⟩) 83 83], defers := [] }
set_option maxHeartbeats 2000000 in
theorem rows27 (w : World) : Calls Tryz.prog 95 #[] w fun e w' => e = .returned (.slice (some ⟨w.heap.size, 0, none⟩) 83 83) /\ w' = w.alloc (.cells rowsA 133) := by
 refine calls_of_wp Tryz.func95 rfl ?_
 refine wp_seq (wp_run (a' := { tmps := #[.slice none 0 0] ++ Array.replicate 84 undef, defers := [] }) (w' := w) (by kernel_rfl) ?_)
 show Code.wp _ _ _ _ _
 refine wp_seq (wp_run (a' := rowsEnd w) (w' := w.alloc (.cells rowsA 133)) (by kernel_rfl) ?_)
 refine wp_ret (bodyPost_ret (v := .slice (some ⟨w.heap.size, 0, none⟩) 83 83) (by kernel_rfl) rfl ⟨rfl, rfl⟩)
end Go.Proofs.YtimfipkbddpdmaaGreatDoor
