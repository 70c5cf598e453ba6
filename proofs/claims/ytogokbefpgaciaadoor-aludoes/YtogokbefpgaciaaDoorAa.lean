/- What is proved here: the small functions of alu: numbers with a sign, what is over, what holds, leading bits. -/
import Derived.Test.YtogokbefpgaciaaDoorSm
import Derived.Test.YtogokbefpgaciaaDoorWBits
import Derived.Test.YtogokbefpgaciaaDoorIns
import Derived.BigQuiet
import Derived.Deep.QuietTactic
import Derived.RegionTactic
namespace Go.Proofs.YtogokbefpgaciaaDoor
open Go.RowKit
set_option linter.unusedVariables false
set_option linter.unusedSimpArgs false
set_option maxRecDepth 100000
/-- What an instruction makes its number of. -/
structure Tk where
  s : Nat
  t : Nat
  imm : Nat
  simm : Nat
  sa : Int
  rd : Int
def Tk.val (x : Tk) : Value := .agg #[.int .u32 (x.s : Int), .int .u32 (x.t : Int), .int .u32 (x.imm : Int), .int .u32 (x.simm : Int), .int .i64 x.sa, .int .i64 x.rd]
structure Tk.Ok (x : Tk) : Prop where
  s : x.s < 4294967296
  t : x.t < 4294967296
  imm : x.imm < 4294967296
  simm : x.simm < 4294967296
/-- A number with its sign. -/
def sg (v : Nat) : Int := if v < 2147483648 then (v : Int) else (v : Int) - 4294967296
theorem sg_wrap (v : Nat) (h : v < 4294967296) : wrap32 (v : Int) = sg v := by unfold wrap32 sg; split <;> omega
theorem sg_lo (v : Nat) (h : v < 4294967296) : -2147483648 ≤ sg v ∧ sg v < 2147483648 := by unfold sg; split <;> omega
def outN (n : Int) : Nat := (n % 4294967296).toNat
theorem outN_is (n : Int) : ((outN n : Nat) : Int) = n % 4294967296 := by unfold outN; omega
theorem outN_lt (n : Int) : outN n < 4294967296 := by unfold outN; omega
/-- What 32 bits with a sign have. -/
def chk (n : Int) : Option Nat := if -2147483648 ≤ n ∧ n ≤ 2147483647 then some (outN n) else none
abbrev thrown (n : Int) : List PanicEntry := [{ v := .iface 68 (.int .i64 n), recovered := false }]
def Told (r : Option Nat) (e : Ending) : Prop := match r with
  | some n => e = .returned (.int .u32 (n : Int))
  | none => ∃ m : Int, e = .panicked (thrown m)
theorem ret_u32 {a b : Int} (h : a = b) : Ending.returned (.int .u32 a) = .returned (.int .u32 b) := by rw [h]
theorem signed26 (v : Nat) (hv : v < 4294967296) (w : World) : Calls Tryd.prog 26 #[.int .u32 (v : Int)] w fun e w' => e = .returned (.int .i64 (sg v)) ∧ w' = w := by
  have h1 := sg_wrap v hv
  have h2 : Hid (wrap64 (sg v) = sg v) := by have := sg_lo v hv; show _ = _; unfold wrap64; omega
  go_enter Tryd.func26, Tryd.ntmps26
  go_wp2
  go_ret
  exact ⟨congrArg (fun z => Ending.returned (.int .i64 z)) h2.out, rfl⟩
theorem checked42_ok (n : Int) (h : -2147483648 ≤ n ∧ n ≤ 2147483647) (w : World) : Calls Tryd.prog 42 #[.int .i64 n] w fun e w' => e = .returned (.int .u32 ((outN n : Nat) : Int)) ∧ w' = w := by
  obtain ⟨h1, h2⟩ := h
  have ho : Hid (n % 4294967296 = ((outN n : Nat) : Int)) := (outN_is n).symm
  go_enter Tryd.func42, Tryd.ntmps42
  go_wp2
  go_ret
  exact ⟨ret_u32 ho.out, rfl⟩
theorem checked42_no (n : Int) (h : ¬ (-2147483648 ≤ n ∧ n ≤ 2147483647)) (w : World) : Calls Tryd.prog 42 #[.int .i64 n] w fun e w' => e = .panicked (thrown n) ∧ w' = w := by
  by_cases h1 : n < -2147483648
  · clear h
    go_enter Tryd.func42, Tryd.ntmps42
    go_wp2
    exact ⟨rfl, rfl, rfl⟩
  · have h2 : 2147483647 < n := by omega
    clear h
    go_enter Tryd.func42, Tryd.ntmps42
    go_wp2
    exact ⟨rfl, rfl, rfl⟩
def bitN (b : Bool) : Nat := if b then 1 else 0
theorem truth56 (b : Bool) (w : World) : Calls Tryd.prog 56 #[.bool b] w fun e w' => e = .returned (.int .u32 (bitN b : Int)) ∧ w' = w := by
  cases b
  all_goals
    go_enter Tryd.func56, Tryd.ntmps56
    go_wp2
    go_ret
    exact ⟨rfl, rfl⟩
def lowN (n : Nat) : Nat := 2 ^ n - 1
theorem lowest75 (n : Nat) (hn : n ≤ 32) (w : World) : Calls Tryd.prog 75 #[.int .i64 (n : Int)] w fun e w' => e = .returned (.int .u32 (lowN n : Int)) ∧ w' = w := by
  have hk : Hid ((((2 : Int) ^ n) % 4294967296 - 1) % 4294967296 = ((lowN n : Nat) : Int)) := by
    show _ = _
    have h : ∀ n, n ≤ 32 → (((2 : Int) ^ n) % 4294967296 - 1) % 4294967296 = ((lowN n : Nat) : Int) := by
      intro n hn
      have : n = 0 ∨ n = 1 ∨ n = 2 ∨ n = 3 ∨ n = 4 ∨ n = 5 ∨ n = 6 ∨ n = 7 ∨ n = 8 ∨ n = 9 ∨ n = 10 ∨ n = 11 ∨ n = 12 ∨ n = 13 ∨ n = 14 ∨ n = 15 ∨ n = 16 ∨ n = 17 ∨ n = 18 ∨ n = 19 ∨ n = 20 ∨ n = 21 ∨ n = 22 ∨ n = 23 ∨ n = 24 ∨ n = 25 ∨ n = 26 ∨ n = 27 ∨ n = 28 ∨ n = 29 ∨ n = 30 ∨ n = 31 ∨ n = 32 := by omega
      rcases this with h|h|h|h|h|h|h|h|h|h|h|h|h|h|h|h|h|h|h|h|h|h|h|h|h|h|h|h|h|h|h|h|h <;> subst h <;> decide
    exact h n hn
  go_enter Tryd.func75, Tryd.ntmps75
  go_wp2
  go_ret
  exact ⟨ret_u32 hk.out, rfl⟩
/-- A bit from the highest on. -/
def topB (v k n : Nat) : Bool := v / 2 ^ (31 - n) % 2 == k
def leadF (v k : Nat) : Nat → Nat → Nat
  | 0, n => n
  | f + 1, n => if topB v k n then leadF v k f (n + 1) else n
/-- How many bits of a kind a number begins with. -/
def leadN (v k : Nat) : Nat := leadF v k 32 0
theorem leadF_le (v k : Nat) : ∀ f n, leadF v k f n ≤ n + f
  | 0, n => by simp [leadF]
  | f + 1, n => by
    unfold leadF; split
    · have := leadF_le v k f (n + 1); omega
    · omega
theorem and_one (v n : Nat) (hv : v < 4294967296) : bits .and .u32 ((v : Int) / 2 ^ n) 1 = ((v / 2 ^ n % 2 : Nat) : Int) := by
  have e : (v : Int) / 2 ^ n = ((v / 2 ^ n : Nat) : Int) := by simp
  have h : v / 2 ^ n ≤ v := Nat.div_le_self _ _
  rw [e, show (1 : Int) = ((1 : Nat) : Int) from rfl, and_u32 _ _ (by omega) (by decide)]
  rw [show v / 2 ^ n &&& 1 = v / 2 ^ n % 2 from Nat.and_two_pow_sub_one_eq_mod _ 1]
theorem clo92 (v k n : Nat) (hv : v < 4294967296) (hk : k < 4294967296) (hn : n < 32) (pv pk : Addr) (w : World) (cv : w.cell? pv = some (.int .u32 (v : Int))) (ck : w.cell? pk = some (.int .u32 (k : Int))) :
    Calls Tryd.prog 92 #[.int .u32 (n : Int), .pointer (some pv), .pointer (some pk)] w fun e w' => e = .returned (.bool (topB v k n)) ∧ w' = w := by
  have h1 : (31 - (n : Int)) % 4294967296 = ((31 - n : Nat) : Int) := by omega
  have h2 := and_one v (31 - n) hv
  have h3 : Hid ((((v / 2 ^ (31 - n) % 2 : Nat) : Int) == (k : Int)) = topB v k n) := by
    show _ = _
    unfold topB
    generalize v / 2 ^ (31 - n) % 2 = a
    by_cases e : a = k
    · subst e; rw [beq_self_eq_true, beq_self_eq_true]
    · have h : ¬ (a : Int) = (k : Int) := by omega
      rw [beq_eq_false_iff_ne.2 h, beq_eq_false_iff_ne.2 e]
  generalize topB v k n = b at h3 ⊢
  generalize v / 2 ^ (31 - n) % 2 = a at h2 h3
  have h4 : min (31 - n) 64 = 31 - n := by omega
  go_enter Tryd.func92, Tryd.ntmps92
  go_wp2
  go_ret
  exact ⟨by rw [← h3.out]; rfl, rfl⟩
end Go.Proofs.YtogokbefpgaciaaDoor
