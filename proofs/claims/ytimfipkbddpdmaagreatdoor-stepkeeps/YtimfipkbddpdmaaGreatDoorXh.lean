import Derived.Test.YtimfipkbddpdmaaGreatDoorXc
set_option linter.unusedVariables false
set_option linter.unusedSimpArgs false
set_option maxRecDepth 100000
open Go Go.RowKit
namespace Go.Proofs.YtimfipkbddpdmaaGreatDoor.Wd
theorem and_3 (n : Int) : bits .and .i64 n 3 = n % 4 := by
 have h3 : (BitVec.ofInt 64 3).toNat = 2 ^ 2 - 1 := by decide
 have key : (BitVec.ofInt 64 n &&& BitVec.ofInt 64 3).toNat = (n % ((2 ^ 64 : Nat) : Int)).toNat % 2 ^ 2 := by
  rw [BitVec.toNat_and, h3, Nat.and_two_pow_sub_one_eq_mod, BitVec.toNat_ofInt]
 show IntKind.i64.wrap ((BitVec.ofInt 64 n &&& BitVec.ofInt 64 3).toNat : Nat) = n % 4
 rw [key, IntKind.wrap_i64]
 omega
theorem or_u32 (a b : Nat) (ha : a < 4294967296) (hb : b < 4294967296) : bits .or .u32 (a : Int) (b : Int) = ((a ||| b : Nat) : Int) := (bits_nat .u32 32 (by decide) (fun n h0 h1 => by rw [IntKind.wrap_u32]; omega) a b (by omega) (by omega)).2
theorem andNot_u32 (a m : Nat) (ha : a < 4294967296) (hm : m < 4294967296) : bits .andNot .u32 (a : Int) (m : Int) = ((a &&& (4294967295 - m) : Nat) : Int) := by
 have h : a &&& (4294967295 - m) < 4294967296 := Nat.lt_of_le_of_lt Nat.and_le_left ha
 show IntKind.u32.wrap (((BitVec.ofInt 32 (a : Int) &&& ~~~ BitVec.ofInt 32 (m : Int)).toNat : Nat) : Int) = _
 rw [BitVec.toNat_and, BitVec.toNat_not, BitVec.toNat_ofInt, BitVec.toNat_ofInt, IntKind.wrap_u32]
 have ea : ((a : Int) % ((2 ^ 32 : Nat) : Int)).toNat = a := by omega
 have eb : ((m : Int) % ((2 ^ 32 : Nat) : Int)).toNat = m := by omega
 rw [ea, eb, show 2 ^ 32 - 1 - m = 4294967295 - m from rfl]
 omega
theorem and_high (a n : Nat) (ha : a < 4294967296) (hn : n <= 32) : a &&& (4294967295 - (2 ^ n - 1)) = a / 2 ^ n * 2 ^ n := by
 have hp : 0 < 2 ^ n := Nat.pow_pos (by decide)
 have hp2 : 2 ^ n <= 2 ^ 32 := Nat.pow_le_pow_right (by decide) hn
 apply Nat.eq_of_testBit_eq
 intro i
 rw [Nat.testBit_and, show 4294967295 - (2 ^ n - 1) = 2 ^ 32 - ((2 ^ n - 1) + 1) from by omega, Nat.testBit_two_pow_sub_succ (by omega), Nat.testBit_two_pow_sub_one, Nat.testBit_mul_two_pow, Nat.testBit_div_two_pow]
 by_cases h : i < 32
 ·by_cases h2 : n <= i
  ·rw [show i - n + n = i from by omega]; simp [h, h2, show ¬ i < n by omega]
  ·simp [h2, show i < n by omega]
 ·have : a.testBit i = false := Nat.testBit_lt_two_pow (Nat.lt_of_lt_of_le ha (Nat.pow_le_pow_right (show 2 > 0 by decide) (show 32 <= i by omega)))
  by_cases h2 : n <= i
  ·rw [show i - n + n = i from by omega]; simp [h, h2, this]
  ·simp [h2, this]
theorem or_parts (a b n : Nat) (hb : b < 2 ^ n) : b ||| a * 2 ^ n = a * 2 ^ n + b := by
 have := Nat.two_pow_add_eq_or_of_lt hb a
 rw [Nat.or_comm, Nat.mul_comm a, <- this]
def mvN (up : Bool) (j v : Nat) : Nat := if up then v * 2 ^ (8 * j) % 4294967296 else v / 2 ^ (8 * j)
theorem mv_lt (up : Bool) (j v : Nat) (hv : v < 4294967296) : mvN up j v < 4294967296 := by
 unfold mvN; split
 ·omega
 ·exact Nat.lt_of_le_of_lt (Nat.div_le_self _ _) hv
def layN (up : Bool) (old v j : Nat) : Nat := if up then v * 2 ^ (8 * j) % 4294967296 + old % 2 ^ (8 * j) else old / 2 ^ (32 - 8 * j) * 2 ^ (32 - 8 * j) + v / 2 ^ (8 * j)
theorem lay_key (up : Bool) (old v j : Nat) (ho : old < 4294967296) (hv : v < 4294967296) (hj : j <= 3) : (old &&& (4294967295 - mvN up j 4294967295)) ||| mvN up j v = layN up old v j := by
 have h : j = 0 \/ j = 1 \/ j = 2 \/ j = 3 := by omega
 cases up
 ·show (old &&& (4294967295 - 4294967295 / 2 ^ (8 * j))) ||| v / 2 ^ (8 * j) = old / 2 ^ (32 - 8 * j) * 2 ^ (32 - 8 * j) + v / 2 ^ (8 * j)
  have e : 4294967295 / 2 ^ (8 * j) = 2 ^ (32 - 8 * j) - 1 := by rcases h with h | h | h | h <;> subst h <;> decide
  have l : v / 2 ^ (8 * j) < 2 ^ (32 - 8 * j) := by
   rcases h with h | h | h | h <;> subst h
   ·show v / 1 < 4294967296; omega
   ·show v / 256 < 16777216; omega
   ·show v / 65536 < 65536; omega
   ·show v / 16777216 < 256; omega
  rw [e, and_high old _ ho (by omega), Nat.or_comm, or_parts _ _ _ l]
 ·show (old &&& (4294967295 - 4294967295 * 2 ^ (8 * j) % 4294967296)) ||| v * 2 ^ (8 * j) % 4294967296 = v * 2 ^ (8 * j) % 4294967296 + old % 2 ^ (8 * j)
  have e : 4294967295 - 4294967295 * 2 ^ (8 * j) % 4294967296 = 2 ^ (8 * j) - 1 := by rcases h with h | h | h | h <;> subst h <;> decide
  have e2 : v * 2 ^ (8 * j) % 4294967296 = v % 2 ^ (32 - 8 * j) * 2 ^ (8 * j) := by
   rcases h with h | h | h | h <;> subst h
   ·show v * 1 % 4294967296 = v % 4294967296 * 1; omega
   ·show v * 256 % 4294967296 = v % 16777216 * 256; omega
   ·show v * 65536 % 4294967296 = v % 65536 * 65536; omega
   ·show v * 16777216 % 4294967296 = v % 256 * 16777216; omega
  rw [e, Nat.and_two_pow_sub_one_eq_mod, e2, or_parts _ _ _ (Nat.mod_lt _ (Nat.pow_pos (by decide)))]
theorem ahead30 (a : Int) (w : World) : Calls Tryz.prog 144 #[.int .i64 a] w fun e w' => e = .returned (.int .i64 (a % 4)) /\ w' = w := by
 have h := and_3 a
 go_enter Tryz.func144, Tryz.ntmps144
 go_wp2
 go_ret
 exact ⟨rfl, rfl⟩
theorem behind35 (a : Int) (w : World) : Calls Tryz.prog 146 #[.int .i64 a] w fun e w' => e = .returned (.int .i64 (3 - a % 4)) /\ w' = w := by
 have K : Hid (∀ w, Calls Tryz.prog 144 #[.int .i64 a] w fun e w' => e = .returned (.int .i64 (a % 4)) /\ w' = w) := ahead30 a
 go_enter Tryz.func146, Tryz.ntmps146
 go_wp2_with fail
 refine (K.out _).mono ?_
 rintro e w1 ⟨rfl, rfl⟩
 go_wp2
 go_ret
 exact ⟨ret_int (by omega), rfl⟩
def mvF (up : Bool) : Nat := if up then 196 else 197
theorem mv_enter (up : Bool) (args : Array Value) (w : World) : (callFunc (mvF up) args).run Tryz.prog w = .ok (.enter (mvF up) args) w := by
 cases up
 ·exact enter_of Tryz.func197 (by kernel_rfl) (by kernel_rfl) args w
 ·exact enter_of Tryz.func196 (by kernel_rfl) (by kernel_rfl) args w
theorem mv_any (up : Bool) (j v : Nat) (hj : j <= 3) (hv : v < 4294967296) (p : Addr) (w : World) (c : w.cell? p = some (.int .i64 j)) : Calls Tryz.prog (mvF up) #[.int .u32 v, .pointer (some p)] w fun e w' => e = .returned (.int .u32 ((mvN up j v : Nat) : Int)) /\ w' = w := by
 have h : j = 0 \/ j = 1 \/ j = 2 \/ j = 3 := by omega
 cases up
 ·show Calls Tryz.prog 197 _ _ _
  rcases h with h | h | h | h
  all_goals
   subst h
   go_enter Tryz.func197, Tryz.ntmps197
   go_wp2
   go_ret
   exact ⟨ret_int (by simp [mvN]), rfl⟩
 ·show Calls Tryz.prog 196 _ _ _
  rcases h with h | h | h | h
  all_goals
   subst h
   go_enter Tryz.func196, Tryz.ntmps196
   go_wp2
   go_ret
   exact ⟨ret_int (by simp [mvN] <;> omega), rfl⟩
theorem box1 (w : World) (a : Value) (t : Nat) : ∃ W, w.alloc (.cells #[a] t) = W /\ Below w.heap.size w W /\ W.cell? ⟨w.heap.size, 0, none⟩ = some a :=
 ⟨_, rfl, (Below.refl _ _).alloc (Nat.le_refl _) _, cell_newA w _ _ _ _ _ rfl rfl⟩
theorem mk29 (a : Int) (w : World) : Calls Tryz.prog 143 #[.int .i64 a] w fun e w' => e = .returned (.func (.func 196) #[] #[.pointer (some ⟨w.heap.size, 0, none⟩)]) /\ Below w.heap.size w w' /\ w'.cell? ⟨w.heap.size, 0, none⟩ = some (.int .i64 a) := by
 have hmf : ∀ (fn : Fn) (first cap : Array Value) (w : World), (Instr.makeFunc fn first cap).run Tryz.prog w = .ok (.func fn first cap) w := fun _ _ _ _ => rfl
 obtain ⟨W, hW, hb, c0⟩ := box1 w (.int .i64 a) 3
 have H : Hid (Below w.heap.size w W /\ W.cell? ⟨w.heap.size, 0, none⟩ = some (.int .i64 a)) := ⟨hb, c0⟩
 clear hb c0
 go_enter Tryz.func143, Tryz.ntmps143
 go_wp2
 go_ret
 exact ⟨rfl, H.out⟩
theorem mk34 (a : Int) (w : World) : Calls Tryz.prog 145 #[.int .i64 a] w fun e w' => e = .returned (.func (.func 197) #[] #[.pointer (some ⟨w.heap.size, 0, none⟩)]) /\ Below w.heap.size w w' /\ w'.cell? ⟨w.heap.size, 0, none⟩ = some (.int .i64 a) := by
 have hmf : ∀ (fn : Fn) (first cap : Array Value) (w : World), (Instr.makeFunc fn first cap).run Tryz.prog w = .ok (.func fn first cap) w := fun _ _ _ _ => rfl
 obtain ⟨W, hW, hb, c0⟩ := box1 w (.int .i64 a) 3
 have H : Hid (Below w.heap.size w W /\ W.cell? ⟨w.heap.size, 0, none⟩ = some (.int .i64 a)) := ⟨hb, c0⟩
 clear hb c0
 go_enter Tryz.func145, Tryz.ntmps145
 go_wp2
 go_ret
 exact ⟨rfl, H.out⟩
set_option maxHeartbeats 1000000 in
theorem laid28 (up : Bool) (old v j : Nat) (ho : old < 4294967296) (hv : v < 4294967296) (hj : j <= 3) (p : Addr) (w : World) (c : w.cell? p = some (.int .i64 j)) : Calls Tryz.prog 142 #[.int .u32 old, .int .u32 v, .func (.func (mvF up)) #[] #[.pointer (some p)]] w fun e w' => e = .returned (.int .u32 ((layN up old v j : Nat) : Int)) /\ w' = w := by
 have K1 : Hid (Calls Tryz.prog (mvF up) #[.int .u32 4294967295, .pointer (some p)] w fun e w' => e = .returned (.int .u32 ((mvN up j 4294967295 : Nat) : Int)) /\ w' = w) := mv_any up j 4294967295 hj (by decide) p w c
 have K2 : Hid (Calls Tryz.prog (mvF up) #[.int .u32 v, .pointer (some p)] w fun e w' => e = .returned (.int .u32 ((mvN up j v : Nat) : Int)) /\ w' = w) := mv_any up j v hj hv p w c
 have lM := mv_lt up j 4294967295 (by decide)
 have lX := mv_lt up j v hv
 have hk := lay_key up old v j ho hv hj
 have hc := mv_enter up
 generalize mvN up j 4294967295 = M at *
 generalize mvN up j v = X at *
 generalize mvF up = fn at *
 generalize layN up old v j = z at *
 have h1 := andNot_u32 old M ho lM
 have h2 : Hid (bits .or .u32 ((old &&& (4294967295 - M) : Nat) : Int) (X : Int) = (z : Int)) := by
  show _ = _
  rw [or_u32 _ _ (Nat.lt_of_le_of_lt Nat.and_le_left ho) lX, hk]
 generalize old &&& (4294967295 - M) = Y at *
 clear hk lM lX c
 go_enter Tryz.func142, Tryz.ntmps142
 go_wp2_with fail
 refine Calls.mono K1.out ?_
 rintro e w1 ⟨rfl, rfl⟩
 go_wp2_with fail
 refine Calls.mono K2.out ?_
 rintro e w1 ⟨rfl, rfl⟩
 go_wp2
 go_ret
 exact ⟨ret_int h2.out, rfl⟩
def aheadN (a : Int) : Nat := (a % 4).toNat
def behindN (a : Int) : Nat := (3 - a % 4).toNat
set_option maxHeartbeats 1000000 in
theorem loadLeft13 (old v : Nat) (a : Int) (ho : old < 4294967296) (hv : v < 4294967296) (w : World) : Calls Tryz.prog 108 #[.int .u32 old, .int .u32 v, .int .i64 a] w fun e w' => e = .returned (.int .u32 ((layN true old v (aheadN a) : Nat) : Int)) /\ Below w.heap.size w w' := by
 have K1 : Hid (∀ w, Calls Tryz.prog 144 #[.int .i64 a] w fun e w' => e = .returned (.int .i64 ((aheadN a : Nat) : Int)) /\ w' = w) := fun w => by
  have h := ahead30 a w
  rw [show a % 4 = ((aheadN a : Nat) : Int) from by unfold aheadN; omega] at h
  exact h
 have hj : aheadN a <= 3 := by unfold aheadN; omega
 generalize aheadN a = j at *
 have K2 : Hid (∀ w : World, Calls Tryz.prog 143 #[.int .i64 j] w _) := mk29 (j : Int)
 have K3 : Hid (∀ (p : Addr) (w : World), w.cell? p = some (.int .i64 j) -> Calls Tryz.prog 142 #[.int .u32 old, .int .u32 v, .func (.func 196) #[] #[.pointer (some p)]] w fun e w' => e = .returned (.int .u32 ((layN true old v j : Nat) : Int)) /\ w' = w) := laid28 true old v j ho hv hj
 generalize layN true old v j = z at *
 go_enter Tryz.func108, Tryz.ntmps108
 go_wp2_with fail
 refine (K1.out _).mono ?_
 rintro e w1 ⟨rfl, rfl⟩
 go_wp2_with fail
 refine (K2.out _).mono ?_
 rintro e w2 ⟨rfl, hb, c0⟩
 go_wp2_with fail
 refine (K3.out _ _ c0).mono ?_
 rintro e w3 ⟨rfl, rfl⟩
 go_wp2
 go_ret
 exact ⟨rfl, hb⟩
set_option maxHeartbeats 1000000 in
theorem loadRight15 (old v : Nat) (a : Int) (ho : old < 4294967296) (hv : v < 4294967296) (w : World) : Calls Tryz.prog 109 #[.int .u32 old, .int .u32 v, .int .i64 a] w fun e w' => e = .returned (.int .u32 ((layN false old v (behindN a) : Nat) : Int)) /\ Below w.heap.size w w' := by
 have K1 : Hid (∀ w, Calls Tryz.prog 146 #[.int .i64 a] w fun e w' => e = .returned (.int .i64 ((behindN a : Nat) : Int)) /\ w' = w) := fun w => by
  have h := behind35 a w
  rw [show 3 - a % 4 = ((behindN a : Nat) : Int) from by unfold behindN; omega] at h
  exact h
 have hj : behindN a <= 3 := by unfold behindN; omega
 generalize behindN a = j at *
 have K2 : Hid (∀ w : World, Calls Tryz.prog 145 #[.int .i64 j] w _) := mk34 (j : Int)
 have K3 : Hid (∀ (p : Addr) (w : World), w.cell? p = some (.int .i64 j) -> Calls Tryz.prog 142 #[.int .u32 old, .int .u32 v, .func (.func 197) #[] #[.pointer (some p)]] w fun e w' => e = .returned (.int .u32 ((layN false old v j : Nat) : Int)) /\ w' = w) := laid28 false old v j ho hv hj
 generalize layN false old v j = z at *
 go_enter Tryz.func109, Tryz.ntmps109
 go_wp2_with fail
 refine (K1.out _).mono ?_
 rintro e w1 ⟨rfl, rfl⟩
 go_wp2_with fail
 refine (K2.out _).mono ?_
 rintro e w2 ⟨rfl, hb, c0⟩
 go_wp2_with fail
 refine (K3.out _ _ c0).mono ?_
 rintro e w3 ⟨rfl, rfl⟩
 go_wp2
 go_ret
 exact ⟨rfl, hb⟩
set_option maxHeartbeats 1000000 in
theorem storeLeft17 (old v : Nat) (a : Int) (ho : old < 4294967296) (hv : v < 4294967296) (w : World) : Calls Tryz.prog 112 #[.int .u32 old, .int .u32 v, .int .i64 a] w fun e w' => e = .returned (.int .u32 ((layN false old v (aheadN a) : Nat) : Int)) /\ Below w.heap.size w w' := by
 have K1 : Hid (∀ w, Calls Tryz.prog 144 #[.int .i64 a] w fun e w' => e = .returned (.int .i64 ((aheadN a : Nat) : Int)) /\ w' = w) := fun w => by
  have h := ahead30 a w
  rw [show a % 4 = ((aheadN a : Nat) : Int) from by unfold aheadN; omega] at h
  exact h
 have hj : aheadN a <= 3 := by unfold aheadN; omega
 generalize aheadN a = j at *
 have K2 : Hid (∀ w : World, Calls Tryz.prog 145 #[.int .i64 j] w _) := mk34 (j : Int)
 have K3 : Hid (∀ (p : Addr) (w : World), w.cell? p = some (.int .i64 j) -> Calls Tryz.prog 142 #[.int .u32 old, .int .u32 v, .func (.func 197) #[] #[.pointer (some p)]] w fun e w' => e = .returned (.int .u32 ((layN false old v j : Nat) : Int)) /\ w' = w) := laid28 false old v j ho hv hj
 generalize layN false old v j = z at *
 go_enter Tryz.func112, Tryz.ntmps112
 go_wp2_with fail
 refine (K1.out _).mono ?_
 rintro e w1 ⟨rfl, rfl⟩
 go_wp2_with fail
 refine (K2.out _).mono ?_
 rintro e w2 ⟨rfl, hb, c0⟩
 go_wp2_with fail
 refine (K3.out _ _ c0).mono ?_
 rintro e w3 ⟨rfl, rfl⟩
 go_wp2
 go_ret
 exact ⟨rfl, hb⟩
set_option maxHeartbeats 1000000 in
theorem storeRight19 (old v : Nat) (a : Int) (ho : old < 4294967296) (hv : v < 4294967296) (w : World) : Calls Tryz.prog 113 #[.int .u32 old, .int .u32 v, .int .i64 a] w fun e w' => e = .returned (.int .u32 ((layN true old v (behindN a) : Nat) : Int)) /\ Below w.heap.size w w' := by
 have K1 : Hid (∀ w, Calls Tryz.prog 146 #[.int .i64 a] w fun e w' => e = .returned (.int .i64 ((behindN a : Nat) : Int)) /\ w' = w) := fun w => by
  have h := behind35 a w
  rw [show 3 - a % 4 = ((behindN a : Nat) : Int) from by unfold behindN; omega] at h
  exact h
 have hj : behindN a <= 3 := by unfold behindN; omega
 generalize behindN a = j at *
 have K2 : Hid (∀ w : World, Calls Tryz.prog 143 #[.int .i64 j] w _) := mk29 (j : Int)
 have K3 : Hid (∀ (p : Addr) (w : World), w.cell? p = some (.int .i64 j) -> Calls Tryz.prog 142 #[.int .u32 old, .int .u32 v, .func (.func 196) #[] #[.pointer (some p)]] w fun e w' => e = .returned (.int .u32 ((layN true old v j : Nat) : Int)) /\ w' = w) := laid28 true old v j ho hv hj
 generalize layN true old v j = z at *
 go_enter Tryz.func113, Tryz.ntmps113
 go_wp2_with fail
 refine (K1.out _).mono ?_
 rintro e w1 ⟨rfl, rfl⟩
 go_wp2_with fail
 refine (K2.out _).mono ?_
 rintro e w2 ⟨rfl, hb, c0⟩
 go_wp2_with fail
 refine (K3.out _ _ c0).mono ?_
 rintro e w3 ⟨rfl, rfl⟩
 go_wp2
 go_ret
 exact ⟨rfl, hb⟩
end Go.Proofs.YtimfipkbddpdmaaGreatDoor.Wd
