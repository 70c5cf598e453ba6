/- What is proved here: the small functions of wide: halves, numbers with and without signs, products, quotients. -/
import Derived.Test.YtbdhgfjhgfohcaaProg
import Derived.WalkKit
import Derived.WalkSpells
import Derived.WalkLawsBesides
import Derived.Below
import Derived.Laws.BitsLemmas
import Derived.BigQuiet
import Derived.Deep.QuietTactic
import Derived.RegionTactic
namespace Go.Proofs.Ytbdhgfjhgfohcaa
open Go.RowKit
set_option linter.unusedVariables false
set_option linter.unusedSimpArgs false
set_option maxRecDepth 100000
theorem below_tr {w w1 w2 : World} (h : Below w.heap.size w w1) (h' : Below w1.heap.size w1 w2) : Below w.heap.size w w2 := h.trans (h'.mono h.size)
theorem keep_cell {w w' : World} (h : Below w.heap.size w w') {a : Addr} {v : Value} (hc : w.cell? a = some v) : w'.cell? a = some v :=
  (h.cell (World.block_lt_of_cell? w a hc)).trans hc
/-- A number with its sign. -/
def sg (v : Nat) : Int := if v < 2147483648 then (v : Int) else (v : Int) - 4294967296
theorem sg_wrap (v : Nat) (h : v < 4294967296) : wrap32 (v : Int) = sg v := by unfold wrap32 sg; split <;> omega
theorem sg_lo (v : Nat) (h : v < 4294967296) : -2147483648 ≤ sg v ∧ sg v < 2147483648 := by unfold sg; split <;> omega
def outN (n : Int) : Nat := (n % 4294967296).toNat
theorem outN_is (n : Int) : ((outN n : Nat) : Int) = n % 4294967296 := by unfold outN; omega
theorem outN_lt (n : Int) : outN n < 4294967296 := by unfold outN; omega
def outW (n : Int) : Nat := (n % 18446744073709551616).toNat
theorem outW_is (n : Int) : ((outW n : Nat) : Int) = n % 18446744073709551616 := by unfold outW; omega
theorem outW_lt (n : Int) : outW n < 18446744073709551616 := by unfold outW; omega
theorem outW_wrap (n : Int) : IntKind.u64.wrap (wrap64 n) = ((outW n : Nat) : Int) := by rw [outW_is, IntKind.wrap_u64]; unfold wrap64; omega
theorem ret_int {k : IntKind} {a b : Int} (h : a = b) : Ending.returned (.int k a) = .returned (.int k b) := by rw [h]
theorem ret_two {k : IntKind} {a b c d : Int} (h : a = c) (h' : b = d) : Ending.returned (.tuple #[.int k a, .int k b]) = .returned (.tuple #[.int k c, .int k d]) := by rw [h, h']
theorem or_u64 (a b : Nat) (ha : a < 18446744073709551616) (hb : b < 18446744073709551616) : bits .or .u64 (a : Int) (b : Int) = ((a ||| b : Nat) : Int) := (bits_nat .u64 64 (by decide) (fun n h0 h1 => by rw [IntKind.wrap_u64]; omega) a b (by omega) (by omega)).2
theorem join_key (h l : Nat) (hh : h < 4294967296) (hl : l < 4294967296) : bits .or .u64 ((h : Int) * 4294967296) (l : Int) = ((h * 4294967296 + l : Nat) : Int) := by
  have e : (h : Int) * 4294967296 = ((h * 4294967296 : Nat) : Int) := by simp
  rw [e, or_u64 _ _ (by omega) (by omega)]
  have := Nat.two_pow_add_eq_or_of_lt (i := 32) (b := l) hl h
  rw [show h * 4294967296 = 2 ^ 32 * h from by omega, ← this]
/-- One of two: with signs, without. -/
def rd (sn : Bool) (v : Nat) : Int := if sn then sg v else (v : Int)
theorem rd_lo (sn : Bool) (v : Nat) (h : v < 4294967296) : -2147483648 ≤ rd sn v ∧ rd sn v < 4294967296 := by
  have := sg_lo v h
  unfold rd; split <;> omega
theorem rd_zero (sn : Bool) (v : Nat) (h : v < 4294967296) : rd sn v = 0 ↔ v = 0 := by
  unfold rd sg; split
  · split <;> omega
  · omega
def rdF (sn : Bool) : Nat := if sn then 38 else 40
def prN (sn : Bool) (s t : Nat) : Nat := outW (rd sn s * rd sn t)
def dvN (sn : Bool) (s t : Nat) : Nat := if t = 0 then s * 4294967296 + 4294967295 else outN ((rd sn s).tmod (rd sn t)) * 4294967296 + outN ((rd sn s).tdiv (rd sn t))
theorem prN_lt (sn : Bool) (s t : Nat) : prN sn s t < 18446744073709551616 := outW_lt _
theorem dvN_lt (sn : Bool) (s t : Nat) (hs : s < 4294967296) : dvN sn s t < 18446744073709551616 := by
  unfold dvN
  have h1 := outN_lt ((rd sn s).tmod (rd sn t))
  have h2 := outN_lt ((rd sn s).tdiv (rd sn t))
  split <;> omega
theorem high52 (b : Nat) (hb : b < 18446744073709551616) (w : World) : Calls Try.prog 52 #[.int .u64 (b : Int)] w fun e w' => e = .returned (.int .u32 ((b / 4294967296 : Nat) : Int)) ∧ w' = w := by
  go_enter Try.func52, Try.ntmps52
  go_wp2
  go_ret
  exact ⟨ret_int (by omega), rfl⟩
theorem low50 (b : Nat) (hb : b < 18446744073709551616) (w : World) : Calls Try.prog 50 #[.int .u64 (b : Int)] w fun e w' => e = .returned (.int .u32 ((b % 4294967296 : Nat) : Int)) ∧ w' = w := by
  go_enter Try.func50, Try.ntmps50
  go_wp2
  go_ret
  exact ⟨ret_int (by omega), rfl⟩
theorem joined49 (h l : Nat) (hh : h < 4294967296) (hl : l < 4294967296) (w : World) : Calls Try.prog 49 #[.int .u32 (h : Int), .int .u32 (l : Int)] w fun e w' => e = .returned (.int .u64 ((h * 4294967296 + l : Nat) : Int)) ∧ w' = w := by
  have h1 : Hid _ := join_key h l hh hl
  go_enter Try.func49, Try.ntmps49
  go_wp2
  go_ret
  exact ⟨ret_int h1.out, rfl⟩
theorem signed38 (v : Nat) (hv : v < 4294967296) (w : World) : Calls Try.prog 38 #[.int .u32 (v : Int)] w fun e w' => e = .returned (.int .i64 (sg v)) ∧ w' = w := by
  have h1 := sg_wrap v hv
  have h2 : Hid (wrap64 (sg v) = sg v) := by have := sg_lo v hv; show _ = _; unfold wrap64; omega
  go_enter Try.func38, Try.ntmps38
  go_wp2
  go_ret
  exact ⟨ret_int h2.out, rfl⟩
theorem unsigned40 (v : Nat) (hv : v < 4294967296) (w : World) : Calls Try.prog 40 #[.int .u32 (v : Int)] w fun e w' => e = .returned (.int .i64 (v : Int)) ∧ w' = w := by
  go_enter Try.func40, Try.ntmps40
  go_wp2
  go_ret
  exact ⟨rfl, rfl⟩
theorem enter_of {f : FuncId} {fn : Func} (hf : Try.prog.funcs[f]? = some fn) (hname : (fn.name == "runtime.NumGoroutine") = false) (hb : fn.body.isSome = true) (args : Array Value) (w : World) :
    (callFunc f args).run Try.prog w = .ok (.enter f args) w := by
  have h1 : fn.name ≠ "runtime.NumGoroutine" := by simpa using hname
  obtain ⟨c, hb⟩ := Option.isSome_iff_exists.1 hb
  simp [callFunc, hf, h1, hb]
theorem rd_any (sn : Bool) (v : Nat) (hv : v < 4294967296) (w : World) : Calls Try.prog (rdF sn) #[.int .u32 (v : Int)] w fun e w' => e = .returned (.int .i64 (rd sn v)) ∧ w' = w := by
  cases sn
  · exact unsigned40 v hv w
  · exact signed38 v hv w
theorem rd_enter (sn : Bool) (args : Array Value) (w : World) : (callFunc (rdF sn) args).run Try.prog w = .ok (.enter (rdF sn) args) w := by
  cases sn
  · exact enter_of Try.func40 (by kernel_rfl) (by kernel_rfl) args w
  · exact enter_of Try.func38 (by kernel_rfl) (by kernel_rfl) args w
theorem product37 (sn : Bool) (s t : Nat) (hs : s < 4294967296) (ht : t < 4294967296) (w : World) : Calls Try.prog 37 #[.int .u32 (s : Int), .int .u32 (t : Int), .func (.func (rdF sn)) #[] #[]] w fun e w' => e = .returned (.int .u64 ((prN sn s t : Nat) : Int)) ∧ w' = w := by
  have K1 : Hid (∀ w, Calls Try.prog (rdF sn) #[.int .u32 (s : Int)] w fun e w' => e = .returned (.int .i64 (rd sn s)) ∧ w' = w) := rd_any sn s hs
  have K2 : Hid (∀ w, Calls Try.prog (rdF sn) #[.int .u32 (t : Int)] w fun e w' => e = .returned (.int .i64 (rd sn t)) ∧ w' = w) := rd_any sn t ht
  have hc := rd_enter sn
  unfold prN
  generalize rd sn s = a at *
  generalize rd sn t = b at *
  generalize rdF sn = fn at *
  have hk : Hid _ := outW_wrap (a * b)
  go_enter Try.func37, Try.ntmps37
  go_wp2_with fail
  refine (K1.out _).mono ?_
  rintro e w1 ⟨rfl, rfl⟩
  go_wp2_with fail
  refine (K2.out _).mono ?_
  rintro e w1 ⟨rfl, rfl⟩
  go_wp2
  go_ret
  exact ⟨ret_int hk.out, rfl⟩
set_option maxHeartbeats 1000000 in
theorem divided46 (sn : Bool) (s t : Nat) (hs : s < 4294967296) (ht : t < 4294967296) (w : World) : Calls Try.prog 46 #[.int .u32 (s : Int), .int .u32 (t : Int), .func (.func (rdF sn)) #[] #[]] w fun e w' => e = .returned (.int .u64 ((dvN sn s t : Nat) : Int)) ∧ Below w.heap.size w w' := by
  by_cases h0 : t = 0
  · subst h0
    have K : Hid (∀ w, Calls Try.prog 49 #[.int .u32 (s : Int), .int .u32 4294967295] w fun e w' => e = .returned (.int .u64 ((s * 4294967296 + 4294967295 : Nat) : Int)) ∧ w' = w) := joined49 s 4294967295 hs (by decide)
    have e : dvN sn s 0 = s * 4294967296 + 4294967295 := if_pos rfl
    rw [e]
    generalize s * 4294967296 + 4294967295 = z at *
    go_enter Try.func46, Try.ntmps46
    go_wp2_with fail
    refine (K.out _).mono ?_
    rintro e w1 ⟨rfl, rfl⟩
    go_wp2
    go_ret
    exact ⟨rfl, Below.refl _ _⟩
  · have hz : ((t : Int) == 0) = false := by rw [beq_eq_false_iff_ne]; omega
    have K1 : Hid (∀ w, Calls Try.prog (rdF sn) #[.int .u32 (s : Int)] w fun e w' => e = .returned (.int .i64 (rd sn s)) ∧ w' = w) := rd_any sn s hs
    have K2 : Hid (∀ w, Calls Try.prog (rdF sn) #[.int .u32 (t : Int)] w fun e w' => e = .returned (.int .i64 (rd sn t)) ∧ w' = w) := rd_any sn t ht
    have hc := rd_enter sn
    have hb0 : rd sn t ≠ 0 := fun h => h0 ((rd_zero sn t ht).1 h)
    have la := rd_lo sn s hs
    have lb := rd_lo sn t ht
    have e : dvN sn s t = outN ((rd sn s).tmod (rd sn t)) * 4294967296 + outN ((rd sn s).tdiv (rd sn t)) := if_neg h0
    rw [e]
    generalize rd sn s = a at *
    generalize rd sn t = b at *
    generalize rdF sn = fn at *
    have hq : a.tdiv b ≤ 4294967296 ∧ -4294967296 ≤ a.tdiv b := by
      have := Int.natAbs_tdiv_le_natAbs a b
      omega
    have hr : a.tmod b ≤ 4294967296 ∧ -4294967296 ≤ a.tmod b := by
      have := Int.natAbs_tmod a b
      have h2 := Nat.mod_le a.natAbs b.natAbs
      omega
    have K3 : Hid (∀ w, Calls Try.prog 49 #[.int .u32 ((outN (a.tmod b) : Nat) : Int), .int .u32 ((outN (a.tdiv b) : Nat) : Int)] w fun e w' => e = .returned (.int .u64 ((outN (a.tmod b) * 4294967296 + outN (a.tdiv b) : Nat) : Int)) ∧ w' = w) := joined49 _ _ (outN_lt _) (outN_lt _)
    have e1 := outN_is (a.tmod b)
    have e2 := outN_is (a.tdiv b)
    have hw : wrap64 (a.tdiv b) = a.tdiv b := by unfold wrap64; omega
    have hw2 : wrap64 (a.tmod b) = a.tmod b := by unfold wrap64; omega
    have e1' : a.tmod b % 4294967296 = ((outN (a.tmod b) : Nat) : Int) := e1.symm
    have e2' : a.tdiv b % 4294967296 = ((outN (a.tdiv b) : Nat) : Int) := e2.symm
    generalize outN (a.tmod b) * 4294967296 + outN (a.tdiv b) = z at *
    generalize outN (a.tmod b) = x at *
    generalize outN (a.tdiv b) = y at *
    have hb1 : (b == 0) = false := by rw [beq_eq_false_iff_ne]; exact hb0
    clear e1 e2 la lb hq hr
    go_enter Try.func46, Try.ntmps46
    go_wp2_with fail
    refine (K1.out _).mono ?_
    rintro e w1 ⟨rfl, rfl⟩
    go_wp2_with fail
    refine (K2.out _).mono ?_
    rintro e w1 ⟨rfl, rfl⟩
    go_wp2
    go_quiet ((go_at_call 49; exact Calls.quiet_of_same (K3.out _)))
    go_wp2
    go_ret
    exact ⟨rfl, below_drewN (Below.refl _ _) _⟩
end Go.Proofs.Ytbdhgfjhgfohcaa
