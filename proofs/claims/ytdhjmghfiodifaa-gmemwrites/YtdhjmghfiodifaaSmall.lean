/- What is proved here: the first fault of some bytes. -/
import Derived.Test.YtdhjmghfiodifaaSpan
import Derived.Test.YtdhjmghfiodifaaHeld
import Derived.Test.YtdhjmghfiodifaaSl
import Derived.Test.YtdhjmghfiodifaaBitsOf
import Derived.Deep.RegionHeld3
namespace Go.Proofs.Ytdhjmghfiodifaa
open Go.RowKit
set_option maxRecDepth 100000
set_option linter.unusedVariables false
/-- What is wrong with a byte: 1: no page, 2: no right, 0: nothing. -/
def faultK (ms : List (Nat × Int)) (at_ i : Nat) (need : Int) : Int :=
  match ms.find? (fun x => x.1 == ((at_ + i) % 18446744073709551616) / 16384) with
  | none => 1
  | some x => if 18446744073709551616 ≤ at_ + i then 1 else if bits .and .i64 x.2 need = 0 then 2 else 0
/-- The first fault of bytes from the i-th on. -/
def faultFrom (ms : List (Nat × Int)) (at_ : Nat) (need : Int) : Nat → Nat → Int × Nat
  | _, 0 => (0, 0)
  | i, m + 1 => if faultK ms at_ i need = 0 then faultFrom ms at_ need (i + 1) m else (faultK ms at_ i need, (at_ + i) % 18446744073709551616)
end Go.Proofs.Ytdhjmghfiodifaa
namespace Go.Proofs.Ytdhjmghfiodifaa
open Go.RowKit
set_option maxRecDepth 100000
set_option linter.unusedVariables false
/-- There are n pages from page on. -/
def pagesOk (page n : Nat) : Bool := decide (n ≠ 0 ∧ page + n ≤ 1125899906842624)
def protOk (prot : Int) : Bool := decide (0 ≤ prot ∧ prot ≤ 7)
theorem wrong41 (page n : Nat) (prot : Int) (h1 : page < 18446744073709551616) (h2 : n < 18446744073709551616) (w : World) :
    Calls Try.prog 75 #[.int .u64 (page : Int), .int .u64 (n : Int), .int .i64 prot] w fun e w' => e = .returned (.bool (!(pagesOk page n && protOk prot))) ∧ w' = w := by
  have hP : pagesOk page n = decide ((n : Int) ≠ 0 ∧ (page : Int) + n ≤ 1125899906842624) := by
    unfold pagesOk; congr 1; simp; omega
  rw [hP, protOk]
  obtain ⟨p, hp⟩ : ∃ p : Int, p = page := ⟨_, rfl⟩
  obtain ⟨m, hm⟩ : ∃ m : Int, m = n := ⟨_, rfl⟩
  have g1 : 0 ≤ p := by omega
  have g2 : p < 18446744073709551616 := by omega
  have g3 : 0 ≤ m := by omega
  rw [← hp, ← hm]
  clear hp hm hP h1 h2
  by_cases a : m = 0
  · subst a
    go_enter Try.func75, Try.ntmps75
    go_wp2
    go_ret
    exact ⟨by simp, rfl⟩
  by_cases b : 1125899906842624 ≤ p
  · go_enter Try.func75, Try.ntmps75
    go_wp2
    go_ret
    exact ⟨by simp; omega, rfl⟩
  have e : IntKind.u64.wrap (1125899906842624 - p) = 1125899906842624 - p := by rw [IntKind.wrap_u64]; omega
  by_cases c : 1125899906842624 - p < m
  · go_enter Try.func75, Try.ntmps75
    go_wp2
    go_ret
    exact ⟨by simp; omega, rfl⟩
  by_cases d : prot < 0
  · go_enter Try.func75, Try.ntmps75
    go_wp2
    go_ret
    exact ⟨by simp; omega, rfl⟩
  by_cases d2 : 7 < prot
  · rw [show (!(decide (m ≠ 0 ∧ p + m ≤ 1125899906842624) && decide (0 ≤ prot ∧ prot ≤ 7))) = true by simp; omega]
    go_enter Try.func75, Try.ntmps75
    go_wp2
    go_ret
    exact ⟨by first | rfl | (simp; done) | (simp; omega), rfl⟩
  · rw [show (!(decide (m ≠ 0 ∧ p + m ≤ 1125899906842624) && decide (0 ≤ prot ∧ prot ≤ 7))) = false by simp; omega]
    go_enter Try.func75, Try.ntmps75
    go_wp2
    go_ret
    exact ⟨by first | rfl | (simp; done) | (simp; omega), rfl⟩
theorem cellOf45 (a : Nat) (h : a < 18446744073709551616) (w : World) : Calls Try.prog 82 #[.int .u64 (a : Int)] w fun e w' => e = .returned (.int .u64 ((a - a % 8 : Nat) : Int)) ∧ w' = w := by
  go_enter Try.func82, Try.ntmps82
  go_wp2
  go_ret
  refine ⟨?_, rfl⟩
  simp
  omega
/-- Is an address one of n from another one on? -/
def within (a at_ n : Nat) : Bool := decide (at_ ≤ a ∧ a < at_ + n)
theorem inside53 (a at_ n : Nat) (h1 : a < 18446744073709551616) (h2 : at_ < 18446744073709551616) (h3 : n < 18446744073709551616) (w : World) :
    Calls Try.prog 76 #[.int .u64 (a : Int), .int .u64 (at_ : Int), .int .u64 (n : Int)] w fun e w' => e = .returned (.bool (within a at_ n)) ∧ w' = w := by
  by_cases c : at_ ≤ a
  · by_cases d : a < at_ + n
    · have hp : within a at_ n = true := by simp [within]; omega
      rw [hp]
      go_enter Try.func76, Try.ntmps76
      go_wp2
      go_ret
      exact ⟨by simp; omega, rfl⟩
    · have hp : within a at_ n = false := by simp [within]; omega
      rw [hp]
      go_enter Try.func76, Try.ntmps76
      go_wp2
      go_ret
      exact ⟨by simp; omega, rfl⟩
  · go_enter Try.func76, Try.ntmps76
    go_wp2
    go_ret
    refine ⟨?_, rfl⟩
    simp [within]
    omega
end Go.Proofs.Ytdhjmghfiodifaa
namespace Go.Proofs.Ytdhjmghfiodifaa
open Go.RowKit
set_option maxRecDepth 100000
set_option linter.unusedVariables false
theorem results_tmp_cell {fn : Func} {p u : Tmp} {ty : TypeId} (h : fn.results = #[.tmp u, .cell p ty]) (tmps : Array Value) (P : Program) (w : World) :
    (results fn tmps).run P w = ((asAddr (tmps.getD p undef)).run P w).andThen fun a w₁ => ((loadVar ty a).run P w₁).andThen fun v w₂ => .ok (.tuple #[tmps.getD u undef, v]) w₂ := by
  simp only [results, h]
  simp [Sem.run_bind, Result.andThen]
/-- A cell's word. -/
def wordN (cs : List (Nat × Int)) (a : Nat) : Nat := (wordOf cs a).toNat
/-- Words of 64 bits. -/
def Words (cs : List (Nat × Int)) : Prop := ∀ x ∈ cs, 0 ≤ x.2 ∧ x.2 < 18446744073709551616
theorem wordN_lt (cs : List (Nat × Int)) (h : Words cs) (a : Nat) : wordN cs a < 18446744073709551616 := by
  unfold wordN wordOf
  split
  · rename_i x hx
    have := h x (List.mem_of_find?_eq_some hx)
    omega
  · decide
theorem wordOf_eq (cs : List (Nat × Int)) (h : Words cs) (a : Nat) : wordOf cs a = ((wordN cs a : Nat) : Int) := by
  unfold wordN wordOf
  split
  · rename_i x hx
    have := h x (List.mem_of_find?_eq_some hx)
    omega
  · decide
/-- Where a cell begins. -/
def cellOf (a : Nat) : Nat := a - a % 8
theorem cellOf_facts (a : Nat) : cellOf a % 8 = 0 ∧ cellOf a ≤ a ∧ a ≤ cellOf a + 7 := by unfold cellOf; omega
/-- The part of a word that a number of bytes takes, at its place. -/
def lowPart (cs : List (Nat × Int)) (a last : Nat) : Nat := (wordN cs (cellOf a) &&& maskOf (max a (cellOf a) - cellOf a) (min last (cellOf a + 7) - cellOf a)) / 2 ^ (8 * (a - cellOf a))
def highPart (cs : List (Nat × Int)) (a last : Nat) : Nat := (wordN cs (cellOf last) &&& maskOf (max a (cellOf last) - cellOf last) (min last (cellOf last + 7) - cellOf last)) * 2 ^ (8 * (cellOf last - a)) % 18446744073709551616
/-- The number of n bytes. -/
def loadN (cs : List (Nat × Int)) (a n : Nat) : Nat :=
  if cellOf (a + n - 1) = cellOf a then lowPart cs a (a + n - 1) else lowPart cs a (a + n - 1) ||| highPart cs a (a + n - 1)
theorem faultFrom_kind (ms : List (Nat × Int)) (a : Nat) (need : Int) : ∀ (m i : Nat), (faultFrom ms a need i m).1 = 0 → faultFrom ms a need i m = (0, 0) ∧ ∀ j, i ≤ j → j < i + m → faultK ms a j need = 0
  | 0, i, _ => ⟨rfl, fun j h1 h2 => by omega⟩
  | m + 1, i, h => by
    rw [faultFrom] at h ⊢
    split at h
    · rename_i h0
      rw [if_pos h0]
      obtain ⟨e, g⟩ := faultFrom_kind ms a need m (i + 1) h
      refine ⟨e, fun j h1 h2 => ?_⟩
      by_cases ej : j = i
      · subst ej; exact h0
      · exact g j (by omega) (by omega)
    · rename_i h0; exact absurd h h0
theorem faultK_lt (ms : List (Nat × Int)) (a j : Nat) (need : Int) (h : faultK ms a j need = 0) : a + j < 18446744073709551616 := by
  unfold faultK at h
  split at h
  · simp at h
  · split at h
    · simp at h
    · omega
theorem shiftE (a b : Nat) (h1 : b ≤ a) (h2 : a ≤ b + 7) (h3 : a < 18446744073709551616) : (IntKind.u64.wrap (8 * IntKind.u64.wrap ((a : Int) - (b : Int)))).toNat = 8 * (a - b) := by
  simp only [IntKind.wrap_u64]; omega
theorem andShr (x m s : Nat) (hx : x < 18446744073709551616) (hm : m < 18446744073709551616) (hs : s ≤ 64) : bits .and .u64 (x : Int) (m : Int) / 2 ^ min s 64 = (((x &&& m) / 2 ^ s : Nat) : Int) := by
  rw [and64 x m hx hm, Nat.min_eq_left hs, Int.natCast_ediv, Int.natCast_pow]; rfl
theorem andShl (x m s : Nat) (hx : x < 18446744073709551616) (hm : m < 18446744073709551616) (hs : s ≤ 64) : IntKind.u64.wrap (bits .and .u64 (x : Int) (m : Int) * 2 ^ min s 64) = (((x &&& m) * 2 ^ s % 18446744073709551616 : Nat) : Int) := by
  rw [and64 x m hx hm, Nat.min_eq_left hs, IntKind.wrap_u64, Int.natCast_emod, Int.natCast_mul, Int.natCast_pow]; rfl
end Go.Proofs.Ytdhjmghfiodifaa
