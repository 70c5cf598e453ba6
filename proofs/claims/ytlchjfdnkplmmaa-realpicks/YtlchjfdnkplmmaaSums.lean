/- What is proved here: Add, Mul and Div, by the program and by the document. -/
import Derived.Test.YtlchjfdnkplmmaaMade
import Derived.Test.YtlchjfdnkplmmaaRorder
import Derived.Laws.FloatArith
namespace Go.Proofs.Ytlchjfdnkplmmaa
open Go.RowKit

def opN (op : BinOp) (a b : Nat) : Nat := (floatBits op .f64 a b).getD quietN
theorem made_ofBits {op : BinOp} {x y r : Nat} (h : floatBits op .f64 x y = some r) : ¬ isNone r ∧ r < 18446744073709551616 := by
  unfold floatBits at h
  split at h
  · exact add_some h
  · exact ⟨not_none_write _ (sum_nan _ _ _ (map_write h).choose_spec.1) |> fun k => by rw [(map_write h).choose_spec.2]; exact k, by rw [(map_write h).choose_spec.2]; exact write_lt64 _⟩
  · exact mul_some h
  · exact div_some h
  · cases h
theorem none_ofBits {op : BinOp} {x y : Nat} (hop : op = .add ∨ op = .mul ∨ op = .quo) (h : isNone x ∨ isNone y) : floatBits op .f64 x y = none := by
  rcases hop with rfl | rfl | rfl
  · exact add_none h
  · exact mul_none h
  · exact div_none h
/-- One that is none, as the tape chooses it. -/
def nanOf (t : Nat) : Nat := (t % 2) * 9223372036854775808 + 9218868437227405312 + 1 + t / 2 % 4503599627370495
theorem nanOf_none (t : Nat) : isNone (nanOf t) ∧ nanOf t < 18446744073709551616 := by
  have h1 : t % 2 = 0 ∨ t % 2 = 1 := by omega
  have h2 : t / 2 % 4503599627370495 < 4503599627370495 := Nat.mod_lt _ (by decide)
  unfold isNone nanOf rung infR
  generalize t / 2 % 4503599627370495 = u at *
  rcases h1 with h | h <;> rw [h] <;> omega
theorem run_arith_none (op : BinOp) (hop : op = .add ∨ op = .mul ∨ op = .quo) (t : TypeId) (x y : Nat) (h : floatBits op .f64 x y = none) (w : World) : (binOp op t (.float .f64 x) (.float .f64 y)).run Try.prog w = .ok (.float .f64 (nanOf (w.tape w.drawn (.nanBits .f64 x y)))) w.drew := by
  rcases hop with rfl | rfl | rfl
  · have h' : FloatKind.f64.format.add x y = none := h
    simp [binOp, Op.floatArith, h', Question.forced, Question.cut, nanOf]
  · have h' : FloatKind.f64.format.mul x y = none := h
    simp [binOp, Op.floatArith, h', Question.forced, Question.cut, nanOf]
  · have h' : FloatKind.f64.format.div x y = none := h
    simp [binOp, Op.floatArith, h', Question.forced, Question.cut, nanOf]
theorem point_any (a : Nat) (w : World) :
    Calls Try.prog 38 #[.int .u64 (a : Int)] w fun e w' => e = .returned (.float .f64 a) ∧ w' = w := by
  have hx := x_frombits a
  go_enter Try.func38, Try.ntmps38
  go_wp2
  go_ret
  exact ⟨rfl, rfl⟩
theorem bits_ok (v : Nat) (h : ¬ isNone v) (w : World) :
    Calls Try.prog 37 #[.float .f64 v] w fun e w' => e = .returned (.int .u64 ((v : Nat) : Int)) ∧ w' = w := by
  have ho := ord_self v
  rw [decide_eq_false h] at ho
  have hx := x_bits v
  clear h
  go_enter Try.func37, Try.ntmps37
  go_wp2
  go_ret
  exact ⟨rfl, rfl⟩
theorem bits_none (v : Nat) (h : isNone v) (w : World) :
    Calls Try.prog 37 #[.float .f64 v] w fun e w' => e = .returned (.int .u64 9221120237041090560) ∧ w' = w := by
  have ho := ord_self v
  rw [decide_eq_true h] at ho
  clear h
  go_enter Try.func37, Try.ntmps37
  go_wp2
  go_ret
  exact ⟨rfl, rfl⟩
theorem add1_any (x y : Nat) (w : World) :
    Calls Try.prog 36 #[.float .f64 x, .float .f64 y] w fun e w2 => (∃ v : Nat, e = .returned (.float .f64 v) ∧ v < 18446744073709551616 ∧ Made (floatBits .add .f64 x y) v) ∧ Below w.heap.size w w2 := by
  cases h : floatBits .add .f64 x y with
  | some r =>
    have hk := made_ofBits h
    have hx := fun w => run_float_arith (P := Try.prog) w .add 37 .f64 x y r h
    clear h
    go_enter Try.func36, Try.ntmps36
    go_wp2
    go_ret
    exact ⟨⟨r, rfl, hk.2, rfl, hk.1⟩, Below.refl _ _⟩
  | none =>
    have hx := fun w => run_arith_none .add (by simp) 37 x y h w
    clear h
    go_enter Try.func36, Try.ntmps36
    go_wp2
    go_ret
    exact ⟨⟨_, rfl, (nanOf_none _).2, (nanOf_none _).1⟩, (Below.refl _ _).drew⟩
theorem add_any (a b : Nat) (hA : a < 18446744073709551616) (hB : b < 18446744073709551616) (w : World) :
    Calls Try.prog 14 #[.int .u64 (a : Int), .int .u64 (b : Int)] w fun e w' => e = .returned (.int .u64 ((opN .add a b : Nat) : Int)) ∧ Below w.heap.size w w' := by
  have hmf : ∀ (fn : Fn) (first cap : Array Value) (w : World), (Instr.makeFunc fn first cap).run Try.prog w = .ok (.func fn first cap) w := fun _ _ _ _ => rfl
  have K : Hid (∀ w, Calls Try.prog 35 #[.int .u64 (a : Int), .int .u64 (b : Int), .func (.func 36) #[] #[]] w fun e w' => e = .returned (.int .u64 ((opN .add a b : Nat) : Int)) ∧ Below w.heap.size w w') :=
    fun w => made_any 36 a b (floatBits .add .f64 a b) hA hB w (none_ofBits (by simp)) (enter_of Try.func36 (by kernel_rfl) (by kernel_rfl) _) (add1_any a b)
  generalize opN .add a b = o at *
  clear hA hB
  go_enter Try.func14, Try.ntmps14
  go_wp2_with fail
  refine (K.out _).mono ?_
  rintro e w1 ⟨rfl, hb⟩
  go_wp2
  go_ret
  exact ⟨rfl, hb⟩
theorem radd_any (a b : Nat) (w : World) :
    Calls Try.prog 15 #[.int .u64 (a : Int), .int .u64 (b : Int)] w fun e w' => e = .returned (.int .u64 ((opN .add a b : Nat) : Int)) ∧ Below w.heap.size w w' := by
  have P1 : Hid (∀ w, Calls Try.prog 38 #[.int .u64 (a : Int)] w fun e w' => e = .returned (.float .f64 a) ∧ w' = w) := point_any a
  have P2 : Hid (∀ w, Calls Try.prog 38 #[.int .u64 (b : Int)] w fun e w' => e = .returned (.float .f64 b) ∧ w' = w) := point_any b
  cases h : floatBits .add .f64 a b with
  | some r =>
    have hk := made_ofBits h
    have hx := fun w => run_float_arith (P := Try.prog) w .add 37 .f64 a b r h
    have B : Hid (∀ w, Calls Try.prog 37 #[.float .f64 r] w fun e w' => e = .returned (.int .u64 ((r : Nat) : Int)) ∧ w' = w) := bits_ok r hk.1
    have ho : opN .add a b = r := by unfold opN; rw [h]; rfl
    rw [ho]
    clear h hk ho
    go_enter Try.func15, Try.ntmps15
    go_wp2_with fail
    refine (P1.out _).mono ?_
    rintro e w1 ⟨rfl, rfl⟩
    go_wp2_with fail
    refine (P2.out _).mono ?_
    rintro e w1 ⟨rfl, rfl⟩
    go_wp2_with fail
    refine (B.out _).mono ?_
    rintro e w1 ⟨rfl, rfl⟩
    go_wp2
    go_ret
    exact ⟨rfl, Below.refl _ _⟩
  | none =>
    have hx := fun w => run_arith_none .add (by simp) 37 a b h w
    have B : Hid (∀ t w, Calls Try.prog 37 #[.float .f64 (nanOf t)] w fun e w' => e = .returned (.int .u64 9221120237041090560) ∧ w' = w) := fun t => bits_none (nanOf t) (nanOf_none t).1
    have ho : opN .add a b = 9221120237041090560 := by unfold opN; rw [h]; rfl
    rw [ho]
    clear h ho
    go_enter Try.func15, Try.ntmps15
    go_wp2_with fail
    refine (P1.out _).mono ?_
    rintro e w1 ⟨rfl, rfl⟩
    go_wp2_with fail
    refine (P2.out _).mono ?_
    rintro e w1 ⟨rfl, rfl⟩
    go_wp2_with fail
    refine (B.out _ _).mono ?_
    rintro e w1 ⟨rfl, rfl⟩
    go_wp2
    go_ret
    exact ⟨rfl, (Below.refl _ _).drew⟩
theorem mul1_any (x y : Nat) (w : World) :
    Calls Try.prog 39 #[.float .f64 x, .float .f64 y] w fun e w2 => (∃ v : Nat, e = .returned (.float .f64 v) ∧ v < 18446744073709551616 ∧ Made (floatBits .mul .f64 x y) v) ∧ Below w.heap.size w w2 := by
  cases h : floatBits .mul .f64 x y with
  | some r =>
    have hk := made_ofBits h
    have hx := fun w => run_float_arith (P := Try.prog) w .mul 37 .f64 x y r h
    clear h
    go_enter Try.func39, Try.ntmps39
    go_wp2
    go_ret
    exact ⟨⟨r, rfl, hk.2, rfl, hk.1⟩, Below.refl _ _⟩
  | none =>
    have hx := fun w => run_arith_none .mul (by simp) 37 x y h w
    clear h
    go_enter Try.func39, Try.ntmps39
    go_wp2
    go_ret
    exact ⟨⟨_, rfl, (nanOf_none _).2, (nanOf_none _).1⟩, (Below.refl _ _).drew⟩
theorem mul_any (a b : Nat) (hA : a < 18446744073709551616) (hB : b < 18446744073709551616) (w : World) :
    Calls Try.prog 16 #[.int .u64 (a : Int), .int .u64 (b : Int)] w fun e w' => e = .returned (.int .u64 ((opN .mul a b : Nat) : Int)) ∧ Below w.heap.size w w' := by
  have hmf : ∀ (fn : Fn) (first cap : Array Value) (w : World), (Instr.makeFunc fn first cap).run Try.prog w = .ok (.func fn first cap) w := fun _ _ _ _ => rfl
  have K : Hid (∀ w, Calls Try.prog 35 #[.int .u64 (a : Int), .int .u64 (b : Int), .func (.func 39) #[] #[]] w fun e w' => e = .returned (.int .u64 ((opN .mul a b : Nat) : Int)) ∧ Below w.heap.size w w') :=
    fun w => made_any 39 a b (floatBits .mul .f64 a b) hA hB w (none_ofBits (by simp)) (enter_of Try.func39 (by kernel_rfl) (by kernel_rfl) _) (mul1_any a b)
  generalize opN .mul a b = o at *
  clear hA hB
  go_enter Try.func16, Try.ntmps16
  go_wp2_with fail
  refine (K.out _).mono ?_
  rintro e w1 ⟨rfl, hb⟩
  go_wp2
  go_ret
  exact ⟨rfl, hb⟩
theorem rmul_any (a b : Nat) (w : World) :
    Calls Try.prog 17 #[.int .u64 (a : Int), .int .u64 (b : Int)] w fun e w' => e = .returned (.int .u64 ((opN .mul a b : Nat) : Int)) ∧ Below w.heap.size w w' := by
  have P1 : Hid (∀ w, Calls Try.prog 38 #[.int .u64 (a : Int)] w fun e w' => e = .returned (.float .f64 a) ∧ w' = w) := point_any a
  have P2 : Hid (∀ w, Calls Try.prog 38 #[.int .u64 (b : Int)] w fun e w' => e = .returned (.float .f64 b) ∧ w' = w) := point_any b
  cases h : floatBits .mul .f64 a b with
  | some r =>
    have hk := made_ofBits h
    have hx := fun w => run_float_arith (P := Try.prog) w .mul 37 .f64 a b r h
    have B : Hid (∀ w, Calls Try.prog 37 #[.float .f64 r] w fun e w' => e = .returned (.int .u64 ((r : Nat) : Int)) ∧ w' = w) := bits_ok r hk.1
    have ho : opN .mul a b = r := by unfold opN; rw [h]; rfl
    rw [ho]
    clear h hk ho
    go_enter Try.func17, Try.ntmps17
    go_wp2_with fail
    refine (P1.out _).mono ?_
    rintro e w1 ⟨rfl, rfl⟩
    go_wp2_with fail
    refine (P2.out _).mono ?_
    rintro e w1 ⟨rfl, rfl⟩
    go_wp2_with fail
    refine (B.out _).mono ?_
    rintro e w1 ⟨rfl, rfl⟩
    go_wp2
    go_ret
    exact ⟨rfl, Below.refl _ _⟩
  | none =>
    have hx := fun w => run_arith_none .mul (by simp) 37 a b h w
    have B : Hid (∀ t w, Calls Try.prog 37 #[.float .f64 (nanOf t)] w fun e w' => e = .returned (.int .u64 9221120237041090560) ∧ w' = w) := fun t => bits_none (nanOf t) (nanOf_none t).1
    have ho : opN .mul a b = 9221120237041090560 := by unfold opN; rw [h]; rfl
    rw [ho]
    clear h ho
    go_enter Try.func17, Try.ntmps17
    go_wp2_with fail
    refine (P1.out _).mono ?_
    rintro e w1 ⟨rfl, rfl⟩
    go_wp2_with fail
    refine (P2.out _).mono ?_
    rintro e w1 ⟨rfl, rfl⟩
    go_wp2_with fail
    refine (B.out _ _).mono ?_
    rintro e w1 ⟨rfl, rfl⟩
    go_wp2
    go_ret
    exact ⟨rfl, (Below.refl _ _).drew⟩
theorem div1_any (x y : Nat) (w : World) :
    Calls Try.prog 40 #[.float .f64 x, .float .f64 y] w fun e w2 => (∃ v : Nat, e = .returned (.float .f64 v) ∧ v < 18446744073709551616 ∧ Made (floatBits .quo .f64 x y) v) ∧ Below w.heap.size w w2 := by
  cases h : floatBits .quo .f64 x y with
  | some r =>
    have hk := made_ofBits h
    have hx := fun w => run_float_arith (P := Try.prog) w .quo 37 .f64 x y r h
    clear h
    go_enter Try.func40, Try.ntmps40
    go_wp2
    go_ret
    exact ⟨⟨r, rfl, hk.2, rfl, hk.1⟩, Below.refl _ _⟩
  | none =>
    have hx := fun w => run_arith_none .quo (by simp) 37 x y h w
    clear h
    go_enter Try.func40, Try.ntmps40
    go_wp2
    go_ret
    exact ⟨⟨_, rfl, (nanOf_none _).2, (nanOf_none _).1⟩, (Below.refl _ _).drew⟩
theorem div_any (a b : Nat) (hA : a < 18446744073709551616) (hB : b < 18446744073709551616) (w : World) :
    Calls Try.prog 18 #[.int .u64 (a : Int), .int .u64 (b : Int)] w fun e w' => e = .returned (.int .u64 ((opN .quo a b : Nat) : Int)) ∧ Below w.heap.size w w' := by
  have hmf : ∀ (fn : Fn) (first cap : Array Value) (w : World), (Instr.makeFunc fn first cap).run Try.prog w = .ok (.func fn first cap) w := fun _ _ _ _ => rfl
  have K : Hid (∀ w, Calls Try.prog 35 #[.int .u64 (a : Int), .int .u64 (b : Int), .func (.func 40) #[] #[]] w fun e w' => e = .returned (.int .u64 ((opN .quo a b : Nat) : Int)) ∧ Below w.heap.size w w') :=
    fun w => made_any 40 a b (floatBits .quo .f64 a b) hA hB w (none_ofBits (by simp)) (enter_of Try.func40 (by kernel_rfl) (by kernel_rfl) _) (div1_any a b)
  generalize opN .quo a b = o at *
  clear hA hB
  go_enter Try.func18, Try.ntmps18
  go_wp2_with fail
  refine (K.out _).mono ?_
  rintro e w1 ⟨rfl, hb⟩
  go_wp2
  go_ret
  exact ⟨rfl, hb⟩
theorem rdiv_any (a b : Nat) (w : World) :
    Calls Try.prog 19 #[.int .u64 (a : Int), .int .u64 (b : Int)] w fun e w' => e = .returned (.int .u64 ((opN .quo a b : Nat) : Int)) ∧ Below w.heap.size w w' := by
  have P1 : Hid (∀ w, Calls Try.prog 38 #[.int .u64 (a : Int)] w fun e w' => e = .returned (.float .f64 a) ∧ w' = w) := point_any a
  have P2 : Hid (∀ w, Calls Try.prog 38 #[.int .u64 (b : Int)] w fun e w' => e = .returned (.float .f64 b) ∧ w' = w) := point_any b
  cases h : floatBits .quo .f64 a b with
  | some r =>
    have hk := made_ofBits h
    have hx := fun w => run_float_arith (P := Try.prog) w .quo 37 .f64 a b r h
    have B : Hid (∀ w, Calls Try.prog 37 #[.float .f64 r] w fun e w' => e = .returned (.int .u64 ((r : Nat) : Int)) ∧ w' = w) := bits_ok r hk.1
    have ho : opN .quo a b = r := by unfold opN; rw [h]; rfl
    rw [ho]
    clear h hk ho
    go_enter Try.func19, Try.ntmps19
    go_wp2_with fail
    refine (P1.out _).mono ?_
    rintro e w1 ⟨rfl, rfl⟩
    go_wp2_with fail
    refine (P2.out _).mono ?_
    rintro e w1 ⟨rfl, rfl⟩
    go_wp2_with fail
    refine (B.out _).mono ?_
    rintro e w1 ⟨rfl, rfl⟩
    go_wp2
    go_ret
    exact ⟨rfl, Below.refl _ _⟩
  | none =>
    have hx := fun w => run_arith_none .quo (by simp) 37 a b h w
    have B : Hid (∀ t w, Calls Try.prog 37 #[.float .f64 (nanOf t)] w fun e w' => e = .returned (.int .u64 9221120237041090560) ∧ w' = w) := fun t => bits_none (nanOf t) (nanOf_none t).1
    have ho : opN .quo a b = 9221120237041090560 := by unfold opN; rw [h]; rfl
    rw [ho]
    clear h ho
    go_enter Try.func19, Try.ntmps19
    go_wp2_with fail
    refine (P1.out _).mono ?_
    rintro e w1 ⟨rfl, rfl⟩
    go_wp2_with fail
    refine (P2.out _).mono ?_
    rintro e w1 ⟨rfl, rfl⟩
    go_wp2_with fail
    refine (B.out _ _).mono ?_
    rintro e w1 ⟨rfl, rfl⟩
    go_wp2
    go_ret
    exact ⟨rfl, (Below.refl _ _).drew⟩
end Go.Proofs.Ytlchjfdnkplmmaa
