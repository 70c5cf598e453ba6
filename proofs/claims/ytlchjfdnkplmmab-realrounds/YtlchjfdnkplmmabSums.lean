/- What is proved here: Add, Mul and Div, by the program and by the document. -/
import Derived.Test.YtlchjfdnkplmmabMade
import Derived.Test.YtlchjfdnkplmmabRorder
import Derived.Laws.FloatArith
namespace Go.Proofs.Ytlchjfdnkplmmab
open Go.RowKit

def opN (op : BinOp) (a b : Nat) : Nat := (floatBits op .f64 a b).getD quietN
theorem made_ofBits {op : BinOp} {x y r : Nat} (h : floatBits op .f64 x y = some r) : ¬ isNone r ∧ r < 18446744073709551616 := by
  unfold floatBits at h
  split at h
  · exact add_some h
  · exact ⟨not_none_write _ (sum_nan _ _ _ (map_write h).choose_spec.1) |> fun k => by rw [(map_write h).choose_spec.2]; exact k, by rw [(map_write h).choose_spec.2]; exact write_lt64 _⟩
  · exact mul_some h
  · exact div_some h
  · cases h
theorem none_ofBits {op : BinOp} {x y : Nat} (hop : op = .add ∨ op = .mul ∨ op = .quo) (h : isNone x ∨ isNone y) : floatBits op .f64 x y = none := by
  rcases hop with rfl | rfl | rfl
  · exact add_none h
  · exact mul_none h
  · exact div_none h
/-- One that is none, as the tape chooses it. -/
def nanOf (t : Nat) : Nat := (t % 2) * 9223372036854775808 + 9218868437227405312 + 1 + t / 2 % 4503599627370495
theorem nanOf_none (t : Nat) : isNone (nanOf t) ∧ nanOf t < 18446744073709551616 := by
  have h1 : t % 2 = 0 ∨ t % 2 = 1 := by omega
  have h2 : t / 2 % 4503599627370495 < 4503599627370495 := Nat.mod_lt _ (by decide)
  unfold isNone nanOf rung infR
  generalize t / 2 % 4503599627370495 = u at *
  rcases h1 with h | h <;> rw [h] <;> omega
theorem run_arith_none (op : BinOp) (hop : op = .add ∨ op = .mul ∨ op = .quo) (t : TypeId) (x y : Nat) (h : floatBits op .f64 x y = none) (w : World) : (binOp op t (.float .f64 x) (.float .f64 y)).run Try.prog w = .ok (.float .f64 (nanOf (w.tape w.drawn (.nanBits .f64 x y)))) w.drew := by
  rcases hop with rfl | rfl | rfl
  · have h' : FloatKind.f64.format.add x y = none := h
    simp [binOp, Op.floatArith, h', Question.forced, Question.cut, nanOf]
  · have h' : FloatKind.f64.format.mul x y = none := h
    simp [binOp, Op.floatArith, h', Question.forced, Question.cut, nanOf]
  · have h' : FloatKind.f64.format.div x y = none := h
    simp [binOp, Op.floatArith, h', Question.forced, Question.cut, nanOf]
theorem add1_any (x y : Nat) (w : World) :
    Calls Try.prog 22 #[.float .f64 x, .float .f64 y] w fun e w2 => (∃ v : Nat, e = .returned (.float .f64 v) ∧ v < 18446744073709551616 ∧ Made (floatBits .add .f64 x y) v) ∧ Below w.heap.size w w2 := by
  cases h : floatBits .add .f64 x y with
  | some r =>
    have hk := made_ofBits h
    have hx := fun w => run_float_arith (P := Try.prog) w .add 34 .f64 x y r h
    clear h
    go_enter Try.func22, Try.ntmps22
    go_wp2
    go_ret
    exact ⟨⟨r, rfl, hk.2, rfl, hk.1⟩, Below.refl _ _⟩
  | none =>
    have hx := fun w => run_arith_none .add (by simp) 34 x y h w
    clear h
    go_enter Try.func22, Try.ntmps22
    go_wp2
    go_ret
    exact ⟨⟨_, rfl, (nanOf_none _).2, (nanOf_none _).1⟩, (Below.refl _ _).drew⟩
theorem add_any (a b : Nat) (hA : a < 18446744073709551616) (hB : b < 18446744073709551616) (w : World) :
    Calls Try.prog 9 #[.int .u64 (a : Int), .int .u64 (b : Int)] w fun e w' => e = .returned (.int .u64 ((opN .add a b : Nat) : Int)) ∧ Below w.heap.size w w' := by
  have hmf : ∀ (fn : Fn) (first cap : Array Value) (w : World), (Instr.makeFunc fn first cap).run Try.prog w = .ok (.func fn first cap) w := fun _ _ _ _ => rfl
  have K : Hid (∀ w, Calls Try.prog 21 #[.int .u64 (a : Int), .int .u64 (b : Int), .func (.func 22) #[] #[]] w fun e w' => e = .returned (.int .u64 ((opN .add a b : Nat) : Int)) ∧ Below w.heap.size w w') :=
    fun w => made_any 22 a b (floatBits .add .f64 a b) hA hB w (none_ofBits (by simp)) (enter_of Try.func22 (by kernel_rfl) (by kernel_rfl) _) (add1_any a b)
  generalize opN .add a b = o at *
  clear hA hB
  go_enter Try.func9, Try.ntmps9
  go_wp2_with fail
  refine (K.out _).mono ?_
  rintro e w1 ⟨rfl, hb⟩
  go_wp2
  go_ret
  exact ⟨rfl, hb⟩
theorem div1_any (x y : Nat) (w : World) :
    Calls Try.prog 25 #[.float .f64 x, .float .f64 y] w fun e w2 => (∃ v : Nat, e = .returned (.float .f64 v) ∧ v < 18446744073709551616 ∧ Made (floatBits .quo .f64 x y) v) ∧ Below w.heap.size w w2 := by
  cases h : floatBits .quo .f64 x y with
  | some r =>
    have hk := made_ofBits h
    have hx := fun w => run_float_arith (P := Try.prog) w .quo 34 .f64 x y r h
    clear h
    go_enter Try.func25, Try.ntmps25
    go_wp2
    go_ret
    exact ⟨⟨r, rfl, hk.2, rfl, hk.1⟩, Below.refl _ _⟩
  | none =>
    have hx := fun w => run_arith_none .quo (by simp) 34 x y h w
    clear h
    go_enter Try.func25, Try.ntmps25
    go_wp2
    go_ret
    exact ⟨⟨_, rfl, (nanOf_none _).2, (nanOf_none _).1⟩, (Below.refl _ _).drew⟩
theorem div_any (a b : Nat) (hA : a < 18446744073709551616) (hB : b < 18446744073709551616) (w : World) :
    Calls Try.prog 11 #[.int .u64 (a : Int), .int .u64 (b : Int)] w fun e w' => e = .returned (.int .u64 ((opN .quo a b : Nat) : Int)) ∧ Below w.heap.size w w' := by
  have hmf : ∀ (fn : Fn) (first cap : Array Value) (w : World), (Instr.makeFunc fn first cap).run Try.prog w = .ok (.func fn first cap) w := fun _ _ _ _ => rfl
  have K : Hid (∀ w, Calls Try.prog 21 #[.int .u64 (a : Int), .int .u64 (b : Int), .func (.func 25) #[] #[]] w fun e w' => e = .returned (.int .u64 ((opN .quo a b : Nat) : Int)) ∧ Below w.heap.size w w') :=
    fun w => made_any 25 a b (floatBits .quo .f64 a b) hA hB w (none_ofBits (by simp)) (enter_of Try.func25 (by kernel_rfl) (by kernel_rfl) _) (div1_any a b)
  generalize opN .quo a b = o at *
  clear hA hB
  go_enter Try.func11, Try.ntmps11
  go_wp2_with fail
  refine (K.out _).mono ?_
  rintro e w1 ⟨rfl, hb⟩
  go_wp2
  go_ret
  exact ⟨rfl, hb⟩
end Go.Proofs.Ytlchjfdnkplmmab
