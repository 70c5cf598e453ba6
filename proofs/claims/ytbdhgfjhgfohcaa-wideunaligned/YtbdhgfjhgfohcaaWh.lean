/- What is proved here: LoadLeft, LoadRight, StoreLeft and StoreRight of wide. -/
import Derived.Test.YtbdhgfjhgfohcaaWg
namespace Go.Proofs.Ytbdhgfjhgfohcaa
open Go.RowKit
set_option linter.unusedVariables false
set_option linter.unusedSimpArgs false
set_option maxRecDepth 100000
theorem box1 (w : World) (a : Value) (t : Nat) : ∃ W, w.alloc (.cells #[a] t) = W ∧ Below w.heap.size w W ∧ W.cell? ⟨w.heap.size, 0, none⟩ = some a :=
  ⟨_, rfl, (Below.refl _ _).alloc (Nat.le_refl _) _, cell_newA w _ _ _ _ _ rfl rfl⟩
theorem mk29 (a : Int) (w : World) : Calls Try.prog 29 #[.int .i64 a] w fun e w' => e = .returned (.func (.func 54) #[] #[.pointer (some ⟨w.heap.size, 0, none⟩)]) ∧ Below w.heap.size w w' ∧ w'.cell? ⟨w.heap.size, 0, none⟩ = some (.int .i64 a) := by
  have hmf : ∀ (fn : Fn) (first cap : Array Value) (w : World), (Instr.makeFunc fn first cap).run Try.prog w = .ok (.func fn first cap) w := fun _ _ _ _ => rfl
  obtain ⟨W, hW, hb, c0⟩ := box1 w (.int .i64 a) 3
  have H : Hid (Below w.heap.size w W ∧ W.cell? ⟨w.heap.size, 0, none⟩ = some (.int .i64 a)) := ⟨hb, c0⟩
  clear hb c0
  go_enter Try.func29, Try.ntmps29
  go_wp2
  go_ret
  exact ⟨rfl, H.out⟩
theorem mk34 (a : Int) (w : World) : Calls Try.prog 34 #[.int .i64 a] w fun e w' => e = .returned (.func (.func 55) #[] #[.pointer (some ⟨w.heap.size, 0, none⟩)]) ∧ Below w.heap.size w w' ∧ w'.cell? ⟨w.heap.size, 0, none⟩ = some (.int .i64 a) := by
  have hmf : ∀ (fn : Fn) (first cap : Array Value) (w : World), (Instr.makeFunc fn first cap).run Try.prog w = .ok (.func fn first cap) w := fun _ _ _ _ => rfl
  obtain ⟨W, hW, hb, c0⟩ := box1 w (.int .i64 a) 3
  have H : Hid (Below w.heap.size w W ∧ W.cell? ⟨w.heap.size, 0, none⟩ = some (.int .i64 a)) := ⟨hb, c0⟩
  clear hb c0
  go_enter Try.func34, Try.ntmps34
  go_wp2
  go_ret
  exact ⟨rfl, H.out⟩
set_option maxHeartbeats 1000000 in
theorem laid28 (up : Bool) (old v j : Nat) (ho : old < 4294967296) (hv : v < 4294967296) (hj : j ≤ 3) (p : Addr) (w : World) (c : w.cell? p = some (.int .i64 (j : Int))) : Calls Try.prog 28 #[.int .u32 (old : Int), .int .u32 (v : Int), .func (.func (mvF up)) #[] #[.pointer (some p)]] w fun e w' => e = .returned (.int .u32 ((layN up old v j : Nat) : Int)) ∧ w' = w := by
  have K1 : Hid (Calls Try.prog (mvF up) #[.int .u32 4294967295, .pointer (some p)] w fun e w' => e = .returned (.int .u32 ((mvN up j 4294967295 : Nat) : Int)) ∧ w' = w) := mv_any up j 4294967295 hj (by decide) p w c
  have K2 : Hid (Calls Try.prog (mvF up) #[.int .u32 (v : Int), .pointer (some p)] w fun e w' => e = .returned (.int .u32 ((mvN up j v : Nat) : Int)) ∧ w' = w) := mv_any up j v hj hv p w c
  have lM := mv_lt up j 4294967295 (by decide)
  have lX := mv_lt up j v hv
  have hk := lay_key up old v j ho hv hj
  have hc := mv_enter up
  generalize mvN up j 4294967295 = M at *
  generalize mvN up j v = X at *
  generalize mvF up = fn at *
  generalize layN up old v j = z at *
  have h1 := andNot_u32 old M ho lM
  have h2 : Hid (bits .or .u32 ((old &&& (4294967295 - M) : Nat) : Int) (X : Int) = (z : Int)) := by
    show _ = _
    rw [or_u32 _ _ (Nat.lt_of_le_of_lt Nat.and_le_left ho) lX, hk]
  generalize old &&& (4294967295 - M) = Y at *
  clear hk lM lX c
  go_enter Try.func28, Try.ntmps28
  go_wp2_with fail
  refine Calls.mono K1.out ?_
  rintro e w1 ⟨rfl, rfl⟩
  go_wp2_with fail
  refine Calls.mono K2.out ?_
  rintro e w1 ⟨rfl, rfl⟩
  go_wp2
  go_ret
  exact ⟨ret_int h2.out, rfl⟩
def aheadN (a : Int) : Nat := (a % 4).toNat
def behindN (a : Int) : Nat := (3 - a % 4).toNat
set_option maxHeartbeats 1000000 in
theorem loadLeft13 (old v : Nat) (a : Int) (ho : old < 4294967296) (hv : v < 4294967296) (w : World) : Calls Try.prog 13 #[.int .u32 (old : Int), .int .u32 (v : Int), .int .i64 a] w fun e w' => e = .returned (.int .u32 ((layN true old v (aheadN a) : Nat) : Int)) ∧ Below w.heap.size w w' := by
  have K1 : Hid (∀ w, Calls Try.prog 30 #[.int .i64 a] w fun e w' => e = .returned (.int .i64 ((aheadN a : Nat) : Int)) ∧ w' = w) := fun w => by
    have h := ahead30 a w
    rw [show a % 4 = ((aheadN a : Nat) : Int) from by unfold aheadN; omega] at h
    exact h
  have hj : aheadN a ≤ 3 := by unfold aheadN; omega
  generalize aheadN a = j at *
  have K2 : Hid (∀ w : World, Calls Try.prog 29 #[.int .i64 (j : Int)] w _) := mk29 (j : Int)
  have K3 : Hid (∀ (p : Addr) (w : World), w.cell? p = some (.int .i64 (j : Int)) → Calls Try.prog 28 #[.int .u32 (old : Int), .int .u32 (v : Int), .func (.func 54) #[] #[.pointer (some p)]] w fun e w' => e = .returned (.int .u32 ((layN true old v j : Nat) : Int)) ∧ w' = w) := laid28 true old v j ho hv hj
  generalize layN true old v j = z at *
  go_enter Try.func13, Try.ntmps13
  go_wp2_with fail
  refine (K1.out _).mono ?_
  rintro e w1 ⟨rfl, rfl⟩
  go_wp2_with fail
  refine (K2.out _).mono ?_
  rintro e w2 ⟨rfl, hb, c0⟩
  go_wp2_with fail
  refine (K3.out _ _ c0).mono ?_
  rintro e w3 ⟨rfl, rfl⟩
  go_wp2
  go_ret
  exact ⟨rfl, hb⟩
set_option maxHeartbeats 1000000 in
theorem loadRight15 (old v : Nat) (a : Int) (ho : old < 4294967296) (hv : v < 4294967296) (w : World) : Calls Try.prog 15 #[.int .u32 (old : Int), .int .u32 (v : Int), .int .i64 a] w fun e w' => e = .returned (.int .u32 ((layN false old v (behindN a) : Nat) : Int)) ∧ Below w.heap.size w w' := by
  have K1 : Hid (∀ w, Calls Try.prog 35 #[.int .i64 a] w fun e w' => e = .returned (.int .i64 ((behindN a : Nat) : Int)) ∧ w' = w) := fun w => by
    have h := behind35 a w
    rw [show 3 - a % 4 = ((behindN a : Nat) : Int) from by unfold behindN; omega] at h
    exact h
  have hj : behindN a ≤ 3 := by unfold behindN; omega
  generalize behindN a = j at *
  have K2 : Hid (∀ w : World, Calls Try.prog 34 #[.int .i64 (j : Int)] w _) := mk34 (j : Int)
  have K3 : Hid (∀ (p : Addr) (w : World), w.cell? p = some (.int .i64 (j : Int)) → Calls Try.prog 28 #[.int .u32 (old : Int), .int .u32 (v : Int), .func (.func 55) #[] #[.pointer (some p)]] w fun e w' => e = .returned (.int .u32 ((layN false old v j : Nat) : Int)) ∧ w' = w) := laid28 false old v j ho hv hj
  generalize layN false old v j = z at *
  go_enter Try.func15, Try.ntmps15
  go_wp2_with fail
  refine (K1.out _).mono ?_
  rintro e w1 ⟨rfl, rfl⟩
  go_wp2_with fail
  refine (K2.out _).mono ?_
  rintro e w2 ⟨rfl, hb, c0⟩
  go_wp2_with fail
  refine (K3.out _ _ c0).mono ?_
  rintro e w3 ⟨rfl, rfl⟩
  go_wp2
  go_ret
  exact ⟨rfl, hb⟩
set_option maxHeartbeats 1000000 in
theorem storeLeft17 (old v : Nat) (a : Int) (ho : old < 4294967296) (hv : v < 4294967296) (w : World) : Calls Try.prog 17 #[.int .u32 (old : Int), .int .u32 (v : Int), .int .i64 a] w fun e w' => e = .returned (.int .u32 ((layN false old v (aheadN a) : Nat) : Int)) ∧ Below w.heap.size w w' := by
  have K1 : Hid (∀ w, Calls Try.prog 30 #[.int .i64 a] w fun e w' => e = .returned (.int .i64 ((aheadN a : Nat) : Int)) ∧ w' = w) := fun w => by
    have h := ahead30 a w
    rw [show a % 4 = ((aheadN a : Nat) : Int) from by unfold aheadN; omega] at h
    exact h
  have hj : aheadN a ≤ 3 := by unfold aheadN; omega
  generalize aheadN a = j at *
  have K2 : Hid (∀ w : World, Calls Try.prog 34 #[.int .i64 (j : Int)] w _) := mk34 (j : Int)
  have K3 : Hid (∀ (p : Addr) (w : World), w.cell? p = some (.int .i64 (j : Int)) → Calls Try.prog 28 #[.int .u32 (old : Int), .int .u32 (v : Int), .func (.func 55) #[] #[.pointer (some p)]] w fun e w' => e = .returned (.int .u32 ((layN false old v j : Nat) : Int)) ∧ w' = w) := laid28 false old v j ho hv hj
  generalize layN false old v j = z at *
  go_enter Try.func17, Try.ntmps17
  go_wp2_with fail
  refine (K1.out _).mono ?_
  rintro e w1 ⟨rfl, rfl⟩
  go_wp2_with fail
  refine (K2.out _).mono ?_
  rintro e w2 ⟨rfl, hb, c0⟩
  go_wp2_with fail
  refine (K3.out _ _ c0).mono ?_
  rintro e w3 ⟨rfl, rfl⟩
  go_wp2
  go_ret
  exact ⟨rfl, hb⟩
set_option maxHeartbeats 1000000 in
theorem storeRight19 (old v : Nat) (a : Int) (ho : old < 4294967296) (hv : v < 4294967296) (w : World) : Calls Try.prog 19 #[.int .u32 (old : Int), .int .u32 (v : Int), .int .i64 a] w fun e w' => e = .returned (.int .u32 ((layN true old v (behindN a) : Nat) : Int)) ∧ Below w.heap.size w w' := by
  have K1 : Hid (∀ w, Calls Try.prog 35 #[.int .i64 a] w fun e w' => e = .returned (.int .i64 ((behindN a : Nat) : Int)) ∧ w' = w) := fun w => by
    have h := behind35 a w
    rw [show 3 - a % 4 = ((behindN a : Nat) : Int) from by unfold behindN; omega] at h
    exact h
  have hj : behindN a ≤ 3 := by unfold behindN; omega
  generalize behindN a = j at *
  have K2 : Hid (∀ w : World, Calls Try.prog 29 #[.int .i64 (j : Int)] w _) := mk29 (j : Int)
  have K3 : Hid (∀ (p : Addr) (w : World), w.cell? p = some (.int .i64 (j : Int)) → Calls Try.prog 28 #[.int .u32 (old : Int), .int .u32 (v : Int), .func (.func 54) #[] #[.pointer (some p)]] w fun e w' => e = .returned (.int .u32 ((layN true old v j : Nat) : Int)) ∧ w' = w) := laid28 true old v j ho hv hj
  generalize layN true old v j = z at *
  go_enter Try.func19, Try.ntmps19
  go_wp2_with fail
  refine (K1.out _).mono ?_
  rintro e w1 ⟨rfl, rfl⟩
  go_wp2_with fail
  refine (K2.out _).mono ?_
  rintro e w2 ⟨rfl, hb, c0⟩
  go_wp2_with fail
  refine (K3.out _ _ c0).mono ?_
  rintro e w3 ⟨rfl, rfl⟩
  go_wp2
  go_ret
  exact ⟨rfl, hb⟩
end Go.Proofs.Ytbdhgfjhgfohcaa
