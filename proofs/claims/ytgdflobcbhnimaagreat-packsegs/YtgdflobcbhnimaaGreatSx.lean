/- What is proved here: single operations, one by one: what each tells. -/
import Derived.Test.YtgdflobcbhnimaaGreatBase
import Derived.Test.YtgdflobcbhnimaaGreatPkb
namespace Go.Proofs.YtgdflobcbhnimaaGreat
open Go.RowKit 
set_option linter.unusedVariables false
set_option linter.unusedSimpArgs false
set_option maxRecDepth 100000
namespace Sx
section
variable {P : Program} {w : World} {ρ : Operand → Value} {o : Oper} {t t2 : TypeId} {x y : Operand}
theorem take {ops : Array Oper} {Q : Exit → Act → World → Prop} {a : Act} {rest : List Oper} {v : Value}
    (hw : Region.wanted o (yielded ops a.tmps) = true) (hr : (execOp a.eval o).run P w = .ok (.value v) w)
    (h : wpList P ops Q rest (a.put o.dst v) w) : wpList P ops Q (o :: rest) a w :=
  BigFrame.wpList_want hw fun K hK => by unfold Oper.wp; rw [hr, Oper.upon_value]; exact hK _ _ h
theorem mv {v : Value} (ho : o.op = .move x) (hx : ρ x = v) : (execOp ρ o).run P w = .ok (.value v) w := by
  unfold execOp; rw [ho]; simp [go_sem, hx]
theorem asn {v : Value} (ho : o.op = .assign x) (hx : ρ x = v) : (execOp ρ o).run P w = .ok (.value v) w := by
  unfold execOp; rw [ho]; simp [go_sem, hx]
theorem pickT {u v : Operand} {c : Value} (ho : o.op = .pick x u v) (hx : ρ x = .bool true) (hu : ρ u = c) : (execOp ρ o).run P w = .ok (.value c) w := by
  unfold execOp; rw [ho]; simp [go_sem, hx, hu]
theorem pickF {u v : Operand} {c : Value} (ho : o.op = .pick x u v) (hx : ρ x = .bool false) (hu : ρ v = c) : (execOp ρ o).run P w = .ok (.value c) w := by
  unfold execOp; rw [ho]; simp [go_sem, hx, hu]
theorem add {k : IntKind} {a b c : Int} (ho : o.op = .binOp .add t x y t2) (hx : ρ x = .int k a) (hy : ρ y = .int k b) (h : k.wrap (a + b) = c) : (execOp ρ o).run P w = .ok (.value (.int k c)) w := by
  unfold execOp; rw [ho]; simp [go_sem, hx, hy, h]
theorem sub {k : IntKind} {a b c : Int} (ho : o.op = .binOp .sub t x y t2) (hx : ρ x = .int k a) (hy : ρ y = .int k b) (h : k.wrap (a - b) = c) : (execOp ρ o).run P w = .ok (.value (.int k c)) w := by
  unfold execOp; rw [ho]; simp [go_sem, hx, hy, h]
theorem mul {k : IntKind} {a b c : Int} (ho : o.op = .binOp .mul t x y t2) (hx : ρ x = .int k a) (hy : ρ y = .int k b) (h : k.wrap (a * b) = c) : (execOp ρ o).run P w = .ok (.value (.int k c)) w := by
  unfold execOp; rw [ho]; simp [go_sem, hx, hy, h]
theorem quo {k : IntKind} {a b c : Int} (ho : o.op = .binOp .quo t x y t2) (hx : ρ x = .int k a) (hy : ρ y = .int k b) (hb : (b == 0) = false) (h : k.wrap (a.tdiv b) = c) : (execOp ρ o).run P w = .ok (.value (.int k c)) w := by
  have hb' : ¬ b = 0 := by simpa using hb
  unfold execOp; rw [ho]; simp [go_sem, hx, hy, hb', h]
theorem rem {k : IntKind} {a b c : Int} (ho : o.op = .binOp .rem t x y t2) (hx : ρ x = .int k a) (hy : ρ y = .int k b) (hb : (b == 0) = false) (h : a.tmod b = c) : (execOp ρ o).run P w = .ok (.value (.int k c)) w := by
  have hb' : ¬ b = 0 := by simpa using hb
  unfold execOp; rw [ho]; simp [go_sem, hx, hy, hb', h]
theorem eqI {k : IntKind} {a b : Int} {c : Bool} (ho : o.op = .binOp .eql t x y t2) (hx : ρ x = .int k a) (hy : ρ y = .int k b) (h : (a == b) = c) : (execOp ρ o).run P w = .ok (.value (.bool c)) w := by
  subst h; unfold execOp; rw [ho]; simp [go_sem, hx, hy]
theorem neI {k : IntKind} {a b : Int} {c : Bool} (ho : o.op = .binOp .neq t x y t2) (hx : ρ x = .int k a) (hy : ρ y = .int k b) (h : (a != b) = c) : (execOp ρ o).run P w = .ok (.value (.bool c)) w := by
  subst h; unfold execOp; rw [ho]; simp [go_sem, hx, hy]
theorem ltI {k : IntKind} {a b : Int} {c : Bool} (ho : o.op = .binOp .lss t x y t2) (hx : ρ x = .int k a) (hy : ρ y = .int k b) (h : decide (a < b) = c) : (execOp ρ o).run P w = .ok (.value (.bool c)) w := by
  subst h; unfold execOp; rw [ho]; simp [go_sem, hx, hy]
theorem leI {k : IntKind} {a b : Int} {c : Bool} (ho : o.op = .binOp .leq t x y t2) (hx : ρ x = .int k a) (hy : ρ y = .int k b) (h : decide (a ≤ b) = c) : (execOp ρ o).run P w = .ok (.value (.bool c)) w := by
  subst h; unfold execOp; rw [ho]; simp [go_sem, hx, hy]
theorem gtI {k : IntKind} {a b : Int} {c : Bool} (ho : o.op = .binOp .gtr t x y t2) (hx : ρ x = .int k a) (hy : ρ y = .int k b) (h : decide (b < a) = c) : (execOp ρ o).run P w = .ok (.value (.bool c)) w := by
  subst h; unfold execOp; rw [ho]; simp [go_sem, hx, hy]
theorem geI {k : IntKind} {a b : Int} {c : Bool} (ho : o.op = .binOp .geq t x y t2) (hx : ρ x = .int k a) (hy : ρ y = .int k b) (h : decide (b ≤ a) = c) : (execOp ρ o).run P w = .ok (.value (.bool c)) w := by
  subst h; unfold execOp; rw [ho]; simp [go_sem, hx, hy]
theorem eqS {a b : ByteArray} {c : Bool} (ho : o.op = .binOp .eql t x y t2) (hx : ρ x = .string a) (hy : ρ y = .string b) (h : (a.toList == b.toList) = c) : (execOp ρ o).run P w = .ok (.value (.bool c)) w := by
  subst h; unfold execOp; rw [ho]; simp [go_sem, hx, hy]
theorem neS {a b : ByteArray} {c : Bool} (ho : o.op = .binOp .neq t x y t2) (hx : ρ x = .string a) (hy : ρ y = .string b) (h : (!(a.toList == b.toList)) = c) : (execOp ρ o).run P w = .ok (.value (.bool c)) w := by
  subst h; unfold execOp; rw [ho]; simp [go_sem, hx, hy]
theorem neB {a b c : Bool} (ht : P.underlying t = some .bool) (ho : o.op = .binOp .neq t x y t2) (hx : ρ x = .bool a) (hy : ρ y = .bool b) (h : (!(a == b)) = c) : (execOp ρ o).run P w = .ok (.value (.bool c)) w := by
  subst h; unfold execOp; rw [ho]; simp [go_sem, hx, hy, ht, Op.equal]
theorem not {a c : Bool} (ho : o.op = .unOp .not t x) (hx : ρ x = .bool a) (h : (!a) = c) : (execOp ρ o).run P w = .ok (.value (.bool c)) w := by
  subst h; unfold execOp; rw [ho]; simp [go_sem, hx]
theorem lenS {a : ByteArray} {n : Nat} (ht : P.underlying t = some .string) (ho : o.op = .call { callee := .builtin .len, args := #[x], argTypes := #[t] }) (hx : ρ x = .string a) (hn : a.size = n) : (execOp ρ o).run P w = .ok (.value (.int .i64 (n : Int))) w := by
  unfold execOp; rw [ho]; simp [go_sem, hx, hn, ht]
theorem convI {k k2 : IntKind} {a b : Int} {s d : TypeId} (ho : o.op = .convert s d x) (hs : P.underlying s = some (.int k2)) (hd : P.underlying d = some (.int k)) (hx : ρ x = .int k2 a) (h : k.wrap a = b) : (execOp ρ o).run P w = .ok (.value (.int k b)) w := by
  unfold execOp; rw [ho]; simp [go_sem, hx, hs, hd, h]
theorem sliceS {a b : ByteArray} {l u : Operand} {i j : Nat} (ht : P.underlying t = some .string) (ho : o.op = .slice t x (some l) (some u) none) (hx : ρ x = .string a) (hl : ρ l = .int .i64 (i : Int)) (hu : ρ u = .int .i64 (j : Int)) (hij : i ≤ j) (hj : j ≤ a.size) (h : a.extract i j = b) : (execOp ρ o).run P w = .ok (.value (.string b)) w := by
  unfold execOp; rw [ho]; simp [go_sem, hx, hl, hu, ht, h, hij, hj, Nat.not_lt.2 hij, Nat.not_lt.2 hj]
theorem sliceS0 {a b : ByteArray} {l : Operand} {i : Nat} (ht : P.underlying t = some .string) (ho : o.op = .slice t x (some l) none none) (hx : ρ x = .string a) (hl : ρ l = .int .i64 (i : Int)) (hj : i ≤ a.size) (h : a.extract i a.size = b) : (execOp ρ o).run P w = .ok (.value (.string b)) w := by
  unfold execOp; rw [ho]; simp [go_sem, hx, hl, ht, h, hj, Nat.not_lt.2 hj]
theorem w32 {i : Int} {n : Nat} (h : i = (n : Int)) (hn : n < 4294967296) : IntKind.u32.wrap i = (n : Int) := by
  subst h; simp [IntKind.wrap, IntKind.bits, IntKind.signed]; omega
theorem w64 {i : Int} {n : Nat} (h : i = (n : Int)) (hn : n < 9223372036854775808) : IntKind.i64.wrap i = (n : Int) := by
  subst h; simp [IntKind.wrap, IntKind.bits, IntKind.signed]; omega
end
end Sx
end Go.Proofs.YtgdflobcbhnimaaGreat
namespace Go.Proofs.YtgdflobcbhnimaaGreat
open Go.RowKit 
set_option linter.unusedVariables false
set_option linter.unusedSimpArgs false
set_option maxRecDepth 100000
namespace Sx
section
variable {P : Program} {w : World} {ρ : Operand → Value} {o : Oper} {t t2 : TypeId} {x y : Operand}
theorem lenV {a : Option Addr} {n c : Nat} {e : TypeId} (ht : P.underlying t = some (.slice e)) (ho : o.op = .call { callee := .builtin .len, args := #[x], argTypes := #[t] }) (hx : ρ x = .slice a n c) : (execOp ρ o).run P w = .ok (.value (.int .i64 (n : Int))) w := by
  unfold execOp; rw [ho]; simp [go_sem, hx, ht]
theorem andI {k : IntKind} {a b c : Int} (ho : o.op = .binOp .and t x y t2) (hx : ρ x = .int k a) (hy : ρ y = .int k b) (h : bits .and k a b = c) : (execOp ρ o).run P w = .ok (.value (.int k c)) w := by
  unfold execOp; rw [ho]; simp [go_sem, hx, hy, h]
end
end Sx
theorem setRow_far {w : World} {g k : Nat} {cs : Array Value} {x : Option Obj} (h : w.heap[k]? = x) (ne : g ≠ k) : (w.setRow g cs).heap[k]? = x := (setRow_other _ _ _ _ (Ne.symm ne)).trans h
end Go.Proofs.YtgdflobcbhnimaaGreat
