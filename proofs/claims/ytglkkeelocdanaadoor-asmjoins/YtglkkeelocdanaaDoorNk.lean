/- What is proved here: a number's numeral is digits, ends where no digit stands, and is read as the number: plain words for asm. -/
import Derived.Lib.ItoaNum
import Derived.Lib.AtoiAll
import Derived.Test.YtglkkeelocdanaaDoorSm
namespace Go.Proofs.YtglkkeelocdanaaDoor
open Go
set_option linter.unusedSimpArgs false
set_option linter.unusedVariables false
def isDig (c : UInt8) : Bool := decide (48 ≤ c.toNat ∧ c.toNat ≤ 57)
/-- A sign that can stand in a number: a minus, a digit. -/
def isNum (c : UInt8) : Bool := decide (c.toNat = 45) || isDig c
theorem dg_toNat (d : Nat) (h : d < 10) : (UInt8.ofNat (48 + d)).toNat = 48 + d := by
  rw [UInt8.toNat_ofNat']; omega
theorem isDig_of (d : Nat) (h : d < 10) : isDig (UInt8.ofNat (48 + d)) = true := by
  unfold isDig; rw [dg_toNat d h]; exact decide_eq_true (by omega)
theorem dec_dig : ∀ (u : Nat), ∀ c ∈ Lib.decDigits u, isDig c = true := by
  intro u
  induction u using Nat.strongRecOn with
  | ind u ih =>
    intro c hc
    rw [Lib.decDigits] at hc
    split at hc
    · rename_i h
      have e : c = UInt8.ofNat (48 + u) := by simpa using hc
      rw [e]; exact isDig_of u h
    · rename_i h
      rcases List.mem_append.1 hc with hc | hc
      · exact ih (u / 10) (by omega) c hc
      · have e : c = UInt8.ofNat (48 + u % 10) := by simpa using hc
        rw [e]; exact isDig_of _ (by omega)
theorem dec_ne (u : Nat) : Lib.decDigits u ≠ [] := by
  rw [Lib.decDigits]; split <;> simp
theorem itoa_num (n : Int) : ∀ c ∈ Lib.itoa n, isNum c = true := by
  intro c hc
  unfold Lib.itoa at hc
  split at hc
  · rcases List.mem_cons.1 hc with rfl | hc
    · rfl
    · unfold isNum; rw [dec_dig _ c hc]; simp
  · unfold isNum; rw [dec_dig _ c hc]; simp
/-- A number ends where no sign of one stands. -/
theorem take_num (n : Int) (r : List UInt8) (h : ∀ c ∈ r.head?, isNum c = false) : (Lib.itoa n ++ r).takeWhile isNum = Lib.itoa n ∧ (Lib.itoa n ++ r).dropWhile isNum = r := by
  have key : ∀ (l : List UInt8), (∀ c ∈ l, isNum c = true) → (l ++ r).takeWhile isNum = l ∧ (l ++ r).dropWhile isNum = r := by
    intro l
    induction l with
    | nil =>
      intro _
      cases r with
      | nil => exact ⟨rfl, rfl⟩
      | cons c t =>
        have hc := h c (by simp)
        simp [List.takeWhile, List.dropWhile, hc]
    | cons x t ih =>
      intro hl
      have hx := hl x (List.mem_cons_self ..)
      obtain ⟨i1, i2⟩ := ih (fun c hc => hl c (List.mem_cons_of_mem _ hc))
      simp only [List.cons_append, List.takeWhile_cons, List.dropWhile_cons, hx, if_true, i1, i2, and_self]
  exact key _ (itoa_num n)
/-- Digits are read as they are, behind others. -/
theorem parse_snoc (l : List UInt8) (d : Nat) (hd : d < 10) : ∀ (acc u : Nat), Lib.parseUint10 acc l = .ok u → u * 10 + d < 18446744073709551616 → Lib.parseUint10 acc (l ++ [UInt8.ofNat (48 + d)]) = .ok (u * 10 + d) := by
  induction l with
  | nil =>
    intro acc u h hu
    simp only [Lib.parseUint10] at h
    injection h with h
    subst h
    simp only [List.nil_append, Lib.parseUint10]
    rw [dg_toNat d hd, if_pos (by omega), if_neg (by omega), if_neg (by omega)]
    have : 48 + d - 48 = d := by omega
    rw [this]
  | cons c r ih =>
    intro acc u h hu
    simp only [List.cons_append, Lib.parseUint10] at h ⊢
    split at h
    · rename_i h1
      rw [if_pos h1]
      split at h
      · cases h
      · rename_i h2
        rw [if_neg h2]
        split at h
        · cases h
        · rename_i h3
          rw [if_neg h3]
          exact ih _ u h hu
    · cases h
theorem parse_dec : ∀ (u : Nat), u < 18446744073709551616 → Lib.parseUint10 0 (Lib.decDigits u) = .ok u := by
  intro u
  induction u using Nat.strongRecOn with
  | ind u ih =>
    intro hu
    rw [Lib.decDigits]
    split
    · rename_i h
      have := parse_snoc [] u h 0 0 rfl (by omega)
      simpa using this
    · rename_i h
      have i1 := ih (u / 10) (by omega) (by omega)
      have := parse_snoc (Lib.decDigits (u / 10)) (u % 10) (by omega) 0 (u / 10) i1 (by omega)
      rw [this]
      congr 1
      omega
theorem mag_dec (u : Nat) (hu : u < 18446744073709551616) : Lib.parseMag (Lib.decDigits u) = .ok u := by
  unfold Lib.parseMag
  rw [if_neg (dec_ne u), parse_dec u hu]
theorem dig_not {c : UInt8} (h : isDig c = true) : ¬ (c.toNat = 43 ∨ c.toNat = 45) ∧ ¬ c.toNat = 45 := by
  unfold isDig at h
  have := of_decide_eq_true h
  omega
/-- A number's numeral is read as the number. -/
theorem atoi_itoa (n : Int) (h0 : -9223372036854775808 ≤ n) (h1 : n ≤ 9223372036854775807) : Lib.atoiAll (Lib.itoa n) = .ok n := by
  unfold Lib.itoa
  split
  · rename_i hn
    have hm := mag_dec n.natAbs (by omega)
    simp only [Lib.atoiAll]
    have e : (45 : UInt8).toNat = 45 := rfl
    simp only [e, or_true, if_true, hm, not_true, false_and, if_false, true_and]
    rw [if_neg (by omega)]
    congr 1
    omega
  · rename_i hn
    have hm := mag_dec n.toNat (by omega)
    cases hd : Lib.decDigits n.toNat with
    | nil => exact absurd hd (dec_ne _)
    | cons c r =>
      have hc := dig_not (dec_dig n.toNat c (by rw [hd]; exact List.mem_cons_self ..))
      rw [hd] at hm
      simp only [Lib.atoiAll]
      rw [if_neg hc.1, hm]
      simp only [hc.2, not_false_eq_true, true_and, false_and, if_false]
      rw [if_neg (by omega)]
      congr 1
      omega
end Go.Proofs.YtglkkeelocdanaaDoor
namespace Go.Proofs.YtglkkeelocdanaaDoor
open Go.RowKit
set_option linter.unusedVariables false
set_option linter.unusedSimpArgs false
set_option maxRecDepth 100000
abbrev thrown110 : List PanicEntry := [{ v := .iface 23 (.int .i64 110), recovered := false }]
theorem must46_ok (w : World) : Calls Tryd.prog 32 #[.bool true] w fun e w' => e = .returned (.tuple #[]) ∧ w' = w := by
  go_enter Tryd.func32, Tryd.ntmps32
  go_wp2
  simp [bodyPost, results, Tryd.results32]
theorem must46_no (w : World) : Calls Tryd.prog 32 #[.bool false] w fun e w' => e = .panicked thrown110 ∧ w' = w := by
  go_enter Tryd.func32, Tryd.ntmps32
  go_wp2
  exact ⟨rfl, rfl, rfl⟩
def isLow (c : Nat) : Bool := decide (97 ≤ c ∧ c ≤ 122)
theorem isLetter54 (c : Nat) (hc : c < 256) (w : World) : Calls Tryd.prog 39 #[.int .u8 (c : Int)] w fun e w' => e = .returned (.bool (isLow c)) ∧ w' = w := by
  by_cases h1 : 97 ≤ c
  · have g1 : (97 : Int) ≤ (c : Int) := by omega
    by_cases h2 : c ≤ 122
    · have e : isLow c = true := decide_eq_true ⟨h1, h2⟩
      have g2 : (c : Int) ≤ 122 := by omega
      rw [e]
      go_enter Tryd.func39, Tryd.ntmps39
      go_wp2
      go_ret
      exact ⟨rfl, rfl⟩
    · have e : isLow c = false := decide_eq_false (by omega)
      have g2 : decide ((c : Int) ≤ 122) = false := decide_eq_false (by omega)
      have g3 : (c ≤ 122) = False := eq_false h2
      rw [e]
      go_enter Tryd.func39, Tryd.ntmps39
      go_wp2
      go_ret
      exact ⟨rfl, rfl⟩
  · have e : isLow c = false := decide_eq_false (by omega)
    have g1 : decide ((97 : Int) ≤ (c : Int)) = false := decide_eq_false (by omega)
    have g3 : (97 ≤ c) = False := eq_false h1
    rw [e]
    go_enter Tryd.func39, Tryd.ntmps39
    go_wp2
    go_ret
    exact ⟨rfl, rfl⟩
end Go.Proofs.YtglkkeelocdanaaDoor
namespace Go.Proofs.YtglkkeelocdanaaDoor
open Go.RowKit
set_option linter.unusedVariables false
set_option linter.unusedSimpArgs false
set_option maxRecDepth 100000
abbrev L8 := List UInt8
/-- How that is written which stands behind a name. -/
def patL (n f : L8) (bare : Bool) : L8 :=
  if n == [97, 110, 100, 105] || (n == [111, 114, 105] || n == [120, 111, 114, 105]) then [32, 36, 116, 44, 32, 36, 115, 44, 32, 117] else
  if f == [100, 115, 116] then [32, 36, 100, 44, 32, 36, 115, 44, 32, 36, 116] else
  if f == [100, 116, 97] then [32, 36, 100, 44, 32, 36, 116, 44, 32, 97] else
  if f == [100, 116, 114] then [32, 36, 100, 44, 32, 36, 116, 44, 32, 97] else
  if f == [100, 116, 115] then [32, 36, 100, 44, 32, 36, 116, 44, 32, 36, 115] else
  if f == [100, 116, 118] then [32, 36, 100, 44, 32, 36, 116, 44, 32, 36, 115] else
  if f == [100, 115] then [32, 36, 100, 44, 32, 36, 115] else
  if f == [100, 115, 100] then [32, 36, 100, 44, 32, 36, 115] else
  if f == [100, 116] then [32, 36, 100, 44, 32, 36, 116] else
  if f == [116, 100] then [32, 36, 116, 44, 32, 36, 100] else
  if f == [100] then [32, 36, 100] else
  if f == [115] then [32, 36, 115] else
  if f == [115, 116] then [32, 36, 115, 44, 32, 36, 116] else
  if f == [99] then (if bare then [] else [32, 117]) else
  if f == [106] then [32, 117] else
  if f == [115, 111] then [32, 36, 115, 44, 32, 105] else
  if f == [115, 116, 111] then [32, 36, 115, 44, 32, 36, 116, 44, 32, 105] else
  if f == [116, 115, 105] then [32, 36, 116, 44, 32, 36, 115, 44, 32, 105] else
  if f == [116, 105] then [32, 36, 116, 44, 32, 117] else
  if f == [116, 109] then [32, 36, 116, 44, 32, 105, 40, 36, 115, 41] else
  if f == [116, 115, 120] then [32, 36, 116, 44, 32, 36, 115, 44, 32, 97, 44, 32, 100] else
  []
def isLw (c : UInt8) : Bool := isLow c.toNat
/-- A pattern's parts: each letter, and each text between letters. -/
def ptR (acc : L8) : L8 → List L8
  | [] => if acc = [] then [] else [acc]
  | c :: t => if isLw c then (if acc = [] then [] else [acc]) ++ [c] :: ptR [] t else ptR (acc ++ [c]) t
def partsL (p : L8) : List L8 := ptR [] p
theorem ba_list (b : ByteArray) : (⟨b.toList.toArray⟩ : ByteArray) = b := by
  rw [ByteArray.toList_eq]
end Go.Proofs.YtglkkeelocdanaaDoor
