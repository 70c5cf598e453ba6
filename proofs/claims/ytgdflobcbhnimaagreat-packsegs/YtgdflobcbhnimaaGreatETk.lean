/- What is proved here: elf's small functions: what may be done by flags, sums, what must hold, what is taken off a file. -/
import Derived.Test.YtgdflobcbhnimaaGreatEPb
import Derived.Test.YtgdflobcbhnimaaGreatBd
import Derived.Test.YtgdflobcbhnimaaGreatWRef
import Derived.Test.YtgdflobcbhnimaaGreatWPut
import Derived.LoopTactic
import Derived.LoopN
import Derived.BigQuiet
namespace Go.Proofs.YtgdflobcbhnimaaGreat.E
open Go.RowKit
set_option linter.unusedVariables false
set_option linter.unusedSimpArgs false
set_option maxRecDepth 100000
theorem sum23 (a b : Nat) (ha : a < 4294967296) (hb : b < 4294967296) (w : World) : Calls Tryz.prog 121 #[.int .u32 (a : Int), .int .u32 (b : Int)] w fun e w' => e = .returned (.int .u64 ((a : Int) + (b : Int))) ∧ w' = w := by
  have h : ((a : Int) + (b : Int)) % 18446744073709551616 = (a : Int) + (b : Int) := by omega
  have ia : (a : Int) < 4294967296 := by omega
  have ib : (b : Int) < 4294967296 := by omega
  clear ha hb
  go_enter Tryz.func121, Tryz.ntmps121
  go_wp2
  go_ret
  exact ⟨by first | rfl | (rw [← h]; rfl) | (simp; omega), rfl⟩
theorem and1 (f : Nat) (hf : f < 4294967296) : bits .and .u32 (f : Int) 1 = ((f % 2 : Nat) : Int) := by
  have := u32_and_nat f 1 hf (by decide)
  rw [Nat.and_one_is_mod] at this
  exact this
theorem and_at (f : Nat) (hf : f < 4294967296) (k : Nat) (hk : 2 ^ k < 4294967296) : bits .and .u32 (f : Int) ((2 ^ k : Nat) : Int) = ((f / 2 ^ k % 2 * 2 ^ k : Nat) : Int) := by
  rw [u32_and_nat f _ hf hk]
  congr 1
  apply Nat.eq_of_testBit_eq
  intro i
  rw [Nat.testBit_and, Nat.testBit_two_pow, ← Nat.shiftLeft_eq, Nat.testBit_shiftLeft]
  by_cases h : k = i
  · subst h
    simp [Nat.testBit, Nat.shiftRight_eq_div_pow]
  · rw [decide_eq_false h, Bool.and_false]
    by_cases hi : k ≤ i
    · have : (f / 2 ^ k % 2).testBit (i - k) = false := Nat.testBit_lt_two_pow (Nat.lt_of_lt_of_le (Nat.mod_lt _ (by decide)) (Nat.le_self_pow (by omega) 2))
      rw [this, Bool.and_false]
    · rw [decide_eq_false hi, Bool.false_and]
theorem and2 (f : Nat) (hf : f < 4294967296) : bits .and .u32 (f : Int) 2 = ((f / 2 % 2 * 2 : Nat) : Int) := and_at f hf 1 (by decide)
theorem and4 (f : Nat) (hf : f < 4294967296) : bits .and .u32 (f : Int) 4 = ((f / 4 % 2 * 4 : Nat) : Int) := and_at f hf 2 (by decide)
theorem protN_mod (f : Nat) : protN f = f % 2 * 4 + (f / 2 % 2 * 2 + f / 4 % 2) := by unfold protN; split <;> split <;> split <;> omega
theorem prots11 (f : Nat) (hf : f < 4294967296) (w : World) : Calls Tryz.prog 115 #[.int .u32 (f : Int)] w fun e w' => e = .returned (.int .i64 (protN f : Int)) ∧ w' = w := by
  have e1 := and1 f hf
  have e2 := and2 f hf
  have e4 := and4 f hf
  have hl := protN_le f
  have k : Hid (wrap64 (bits .or .u32 (bits .or .u32 ((f : Int) % 2 * 4) ((f : Int) / 2 % 2 * 2)) ((f : Int) / 4 % 2)) = (protN f : Int)) := by
    show wrap64 (bits .or .u32 (bits .or .u32 ((f : Int) % 2 * 4) ((f : Int) / 2 % 2 * 2)) ((f : Int) / 4 % 2)) = (protN f : Int)
    have h1 : (f : Int) % 2 = 0 ∨ (f : Int) % 2 = 1 := by omega
    have h2 : (f : Int) / 2 % 2 = 0 ∨ (f : Int) / 2 % 2 = 1 := by omega
    have h3 : (f : Int) / 4 % 2 = 0 ∨ (f : Int) / 4 % 2 = 1 := by omega
    have e : (protN f : Int) = (f : Int) % 2 * 4 + ((f : Int) / 2 % 2 * 2 + (f : Int) / 4 % 2) := by rw [protN_mod]; omega
    rw [e]
    rcases h1 with h1 | h1 <;> rcases h2 with h2 | h2 <;> rcases h3 with h3 | h3 <;> rw [h1, h2, h3] <;> decide +kernel
  obtain ⟨p, hp⟩ : ∃ p, p = protN f := ⟨_, rfl⟩
  rw [← hp] at k ⊢
  clear hl hp
  go_enter Tryz.func115, Tryz.ntmps115
  go_wp2
  go_ret
  refine ⟨?_, rfl⟩
  exact congrArg (fun z => Ending.returned (Value.int .i64 z)) k.out
end Go.Proofs.YtgdflobcbhnimaaGreat.E
namespace Go.Proofs.YtgdflobcbhnimaaGreat.E
open Go.RowKit
set_option linter.unusedVariables false
set_option linter.unusedSimpArgs false
set_option maxRecDepth 100000
def Sg.val (g : Sg) : Value := .agg #[.int .i64 (g.kind : Int), .int .u32 (g.off : Int), .int .u32 (g.at_ : Int), .int .u32 (g.size : Int), .int .u32 (g.room : Int), .int .i64 (g.prot : Int), .int .u32 (g.align : Int)]
def Sg.cells (g : Sg) : List Value := [.int .i64 (g.kind : Int), .int .u32 (g.off : Int), .int .u32 (g.at_ : Int), .int .u32 (g.size : Int), .int .u32 (g.room : Int), .int .i64 (g.prot : Int), .int .u32 (g.align : Int)]
/-- A new block of seven cells. -/
theorem box7 (w : World) (g : Sg) : ∃ W, w.alloc (.cells #[.int .i64 (g.kind : Int), .int .u32 (g.off : Int), .int .u32 (g.at_ : Int), .int .u32 (g.size : Int), .int .u32 (g.room : Int), .int .i64 (g.prot : Int), .int .u32 (g.align : Int)] 41) = W ∧ Below w.heap.size w W ∧ W.heap.size = w.heap.size + 1 ∧
    (W.cell? ⟨w.heap.size, 0, none⟩ = some (.int .i64 (g.kind : Int)) ∧ W.cell? ⟨w.heap.size, 1, none⟩ = some (.int .u32 (g.off : Int)) ∧ W.cell? ⟨w.heap.size, 2, none⟩ = some (.int .u32 (g.at_ : Int)) ∧ W.cell? ⟨w.heap.size, 3, none⟩ = some (.int .u32 (g.size : Int)) ∧ W.cell? ⟨w.heap.size, 4, none⟩ = some (.int .u32 (g.room : Int)) ∧ W.cell? ⟨w.heap.size, 5, none⟩ = some (.int .i64 (g.prot : Int)) ∧ W.cell? ⟨w.heap.size, 6, none⟩ = some (.int .u32 (g.align : Int))) := by
  refine ⟨_, rfl, (Below.refl _ _).alloc (Nat.le_refl _) _, by simp, ?_, ?_, ?_, ?_, ?_, ?_, ?_⟩ <;> exact cell_newA _ _ _ _ _ _ rfl rfl
theorem bt_len (p : ByteArray) : p.toList.length = p.size := by rw [ByteArray.toList_eq]; rfl
theorem bal (l : L8) : (⟨l.toArray⟩ : ByteArray).toList = l := by rw [ByteArray.toList_eq]
theorem ext_list (p : ByteArray) (f k : Nat) : p.extract f k = ⟨((p.toList.take k).drop f).toArray⟩ := by
  rw [ByteArray.toList_eq]
  have h : (p.extract f k).data = p.data.extract f k := ByteArray.data_extract
  have e : (p.data.extract f k).toList = (p.data.toList.take k).drop f := by
    rw [Array.toList_extract, List.extract_eq_drop_take']
  have : p.extract f k = ⟨(p.extract f k).data⟩ := rfl
  rw [this, h, ← e]
theorem grown_of {w w' : World} {row : Option Nat} (hb : Below w.heap.size w w') : w.grownBy w' row := ⟨hb.os, hb.tape, hb.output, hb.size, fun k hk _ => hb.block k hk⟩
theorem gb_trans {a b c : World} {row : Option Nat} (h : a.grownBy b row) (k : b.grownBy c row) : a.grownBy c row := ⟨k.os.trans h.os, k.tape.trans h.tape, k.output.trans h.output, Nat.le_trans h.size k.size, fun i hi hr => (k.block i (Nat.lt_of_lt_of_le hi h.size) hr).trans (h.block i hi hr)⟩
theorem beS_take (l : L8) (n : Nat) (h : n ≤ 8) : W.beS ⟨(l.take n).toArray⟩ = W.beL (l.take n) := by
  unfold W.beS
  rw [if_pos]
  show (l.take n).toArray.size ≤ 8
  simp; omega
end Go.Proofs.YtgdflobcbhnimaaGreat.E
