/- What is proved here: plain facts on words of 64 bits with a point: what they stand for, their order, their writing back. -/
import Derived.WalkKit
import Derived.WalkLawsBesides
namespace Go.Proofs.Ytlchjfdnkplmmaa
open Ieee

/-! ### A word's sign and rung, a rung's significand and exponent -/
def rung (x : Nat) : Nat := x % 9223372036854775808
def sgn (x : Nat) : Bool := x / 9223372036854775808 % 2 == 1
def mant (r : Nat) : Nat := if r < 4503599627370496 then r else 4503599627370496 + r % 4503599627370496
def expo (r : Nat) : Nat := r / 4503599627370496 - 1
def val (r : Nat) : Nat := mant r * 2 ^ expo r
abbrev infR : Nat := 9218868437227405312

theorem rung_eq (r : Nat) : expo r * 4503599627370496 + mant r = r := by
  unfold expo mant; split <;> omega
theorem mant_lt (r : Nat) : mant r < 9007199254740992 := by
  unfold mant; split <;> omega
theorem mant_ge (r : Nat) (h : 4503599627370496 ≤ r) : 4503599627370496 ≤ mant r := by
  unfold mant; split <;> omega
theorem expo_zero (r : Nat) (h : r < 4503599627370496) : expo r = 0 := by
  unfold expo; omega
theorem expo_mono (r s : Nat) (h : r ≤ s) : expo r ≤ expo s := by
  unfold expo; omega
theorem val_lt (r s : Nat) (h : r < s) : val r < val s := by
  unfold val
  have hr := rung_eq r; have hs := rung_eq s; have hm := mant_lt r
  rcases Nat.lt_or_ge (expo r) (expo s) with he | he
  · have hs2 : 4503599627370496 ≤ s := by unfold expo at he; omega
    have hms := mant_ge s hs2
    have h1 : mant r * 2 ^ expo r < 2 ^ 53 * 2 ^ expo r := Nat.mul_lt_mul_of_pos_right (by omega) (Nat.two_pow_pos _)
    have h2 : 2 ^ 53 * 2 ^ expo r ≤ 2 ^ 52 * 2 ^ expo s := by
      rw [← Nat.pow_add, ← Nat.pow_add]; exact Nat.pow_le_pow_right (by decide) (by omega)
    have h3 : 2 ^ 52 * 2 ^ expo s ≤ mant s * 2 ^ expo s := Nat.mul_le_mul_right _ (by omega)
    omega
  · have he2 : expo r = expo s := Nat.le_antisymm (expo_mono r s (Nat.le_of_lt h)) he
    rw [he2] at *
    exact Nat.mul_lt_mul_of_pos_right (by omega) (Nat.two_pow_pos _)
theorem val_lt_iff (r s : Nat) : val r < val s ↔ r < s := by
  constructor
  · intro h
    rcases Nat.lt_trichotomy r s with h1 | h1 | h1
    · exact h1
    · subst h1; omega
    · have := val_lt s r h1; omega
  · exact val_lt r s
theorem val_inj (r s : Nat) : val r = val s ↔ r = s := by
  constructor
  · intro h
    rcases Nat.lt_trichotomy r s with h1 | h1 | h1
    · have := val_lt r s h1; omega
    · exact h1
    · have := val_lt s r h1; omega
  · rintro rfl; rfl

theorem sw : double.signWeight = 9223372036854775808 := by decide
theorem bn : double.binade = 4503599627370496 := by decide
theorem ir : double.infRung = 9218868437227405312 := by decide
theorem lp : double.leastPlace = -1074 := by decide

theorem read_num (x : Nat) (h : rung x < infR) : double.read x = .number (sgn x) (mant (rung x)) (-1074 + expo (rung x)) := by
  unfold Format.read
  simp only [sw, bn, ir, lp]
  change (if rung x < _ then _ else _) = _
  unfold mant expo
  by_cases h1 : rung x < 4503599627370496
  · simp only [h1, if_true]
    have : rung x / 4503599627370496 - 1 = 0 := by omega
    rw [this]; rfl
  · simp only [h1, if_false]
    rw [if_pos (show x % 9223372036854775808 < 9218868437227405312 from h)]; rfl
theorem read_inf (x : Nat) (h : rung x = infR) : double.read x = .infinity (sgn x) := by
  unfold Format.read
  simp only [sw, bn, ir, lp]
  have h' : x % 9223372036854775808 = 9218868437227405312 := h
  rw [h']; rfl
theorem read_nan (x : Nat) (h : infR < rung x) : double.read x = .nan (sgn x) (rung x - infR) := by
  unfold Format.read
  simp only [sw, bn, ir, lp]
  have h' : 9218868437227405312 < x % 9223372036854775808 := h
  rw [if_neg (by omega), if_neg (by omega), if_neg (by omega)]; rfl

/-! ### The order is that of the ranks -/
def rank (x : Nat) : Int := if sgn x then -(rung x : Int) else rung x
def isNone (x : Nat) : Prop := infR < rung x
instance (x : Nat) : Decidable (isNone x) := inferInstanceAs (Decidable (_ < _))

theorem cmp_def (a b : Int) : compare a b = if a < b then .lt else if a = b then .eq else .gt := rfl
theorem cmpN_def (a b : Nat) : compare a b = if a < b then .lt else if a = b then .eq else .gt := rfl
theorem cmp_congr (a b c d : Int) (h1 : a < b ↔ c < d) (h2 : a = b ↔ c = d) : compare a b = compare c d := by
  simp only [cmp_def, h1, h2]
theorem cmp_scale (a b : Int) (k : Nat) : compare a b = compare (a * 2 ^ k) (b * 2 ^ k) := by
  have hp : (0 : Int) < 2 ^ k := Int.pow_pos (by decide)
  refine cmp_congr _ _ _ _ ⟨fun h => Int.mul_lt_mul_of_pos_right h hp, fun h => Int.lt_of_mul_lt_mul_right h (Int.le_of_lt hp)⟩ ⟨fun h => by rw [h], fun h => Int.eq_of_mul_eq_mul_right (Int.ne_of_gt hp) h⟩
theorem signed_scale (s : Bool) (m u k : Nat) : signed s m u * 2 ^ k = signed s (m * 2 ^ (u + k)) 0 := by
  have e : ((m <<< u : Nat) : Int) * 2 ^ k = ((m * 2 ^ (u + k) : Nat) : Int) := by
    rw [Nat.shiftLeft_eq, Nat.pow_add, ← Nat.mul_assoc]
    push_cast; rfl
  unfold signed
  cases s
  · simpa using e
  · simp only [if_true, Nat.shiftLeft_zero, Int.neg_mul, e]
theorem signed_zero (s : Bool) (m : Nat) : signed s m 0 = if s then -(m : Int) else m := by
  unfold signed; cases s <;> simp
theorem order_num (s t : Bool) (r q : Nat) : (Datum.number s (mant r) (-1074 + expo r)).order (.number t (mant q) (-1074 + expo q)) = some (compare (if s then -(r : Int) else r) (if t then -(q : Int) else q)) := by
  unfold Datum.order
  simp only [Option.some.injEq]
  have e1 : ((-1074 + (expo r : Int)) - min (-1074 + (expo r : Int)) (-1074 + expo q)).toNat + min (expo r) (expo q) = expo r := by omega
  have e2 : ((-1074 + (expo q : Int)) - min (-1074 + (expo r : Int)) (-1074 + expo q)).toNat + min (expo r) (expo q) = expo q := by omega
  rw [cmp_scale _ _ (min (expo r) (expo q)), signed_scale, signed_scale, e1, e2, signed_zero, signed_zero]
  have hv := val_lt_iff r q; have hw := val_lt_iff q r; have hi := val_inj r q
  have z : val r = 0 ↔ r = 0 := by have := val_inj r 0; rwa [show val 0 = 0 from rfl] at this
  have z' : val q = 0 ↔ q = 0 := by have := val_inj q 0; rwa [show val 0 = 0 from rfl] at this
  unfold val at hv hw hi z z'
  generalize mant r * 2 ^ expo r = A at *
  generalize mant q * 2 ^ expo q = B at *
  apply cmp_congr <;> cases s <;> cases t <;> simp <;> omega
theorem order_rank (a b : Nat) (ha : ¬ isNone a) (hb : ¬ isNone b) : double.order a b = some (compare (rank a) (rank b)) := by
  unfold isNone at ha hb
  unfold Format.order
  rcases Nat.lt_or_ge (rung a) infR with h1 | h1 <;> rcases Nat.lt_or_ge (rung b) infR with h2 | h2
  · rw [read_num a h1, read_num b h2, order_num]; rfl
  · have e : rung b = infR := by omega
    rw [read_num a h1, read_inf b e]
    unfold Datum.order rank
    rw [e]
    simp only [Option.some.injEq, cmp_def]
    cases sgn a <;> cases sgn b <;> simp only [if_true, Bool.false_eq_true, if_false] <;> (repeat' split) <;> first | rfl | omega
  · have e : rung a = infR := by omega
    rw [read_num b h2, read_inf a e]
    unfold Datum.order rank
    rw [e]
    simp only [Option.some.injEq, cmp_def]
    cases sgn a <;> cases sgn b <;> simp only [if_true, Bool.false_eq_true, if_false] <;> (repeat' split) <;> first | rfl | omega
  · have e : rung a = infR := by omega
    have e' : rung b = infR := by omega
    rw [read_inf a e, read_inf b e']
    unfold Datum.order rank
    rw [e, e']
    cases sgn a <;> cases sgn b <;> decide
theorem order_none (a b : Nat) (h : isNone a ∨ isNone b) : double.order a b = none := by
  unfold Format.order
  rcases h with h | h
  · rw [read_nan a h]; rfl
  · rw [read_nan b h]; cases double.read a <;> rfl
end Go.Proofs.Ytlchjfdnkplmmaa
