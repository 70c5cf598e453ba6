import Derived.Test.YtimfipkbddpdmaaGreatDoorMSl
set_option linter.unusedVariables false
set_option linter.unusedSimpArgs false
set_option maxRecDepth 100000
open Go Go.RowKit
namespace Go.Proofs.YtimfipkbddpdmaaGreatDoor.Gm
theorem and64 (a b : Nat) (ha : a < 18446744073709551616) (hb : b < 18446744073709551616) : bits .and .u64 (a : Int) (b : Int) = ((a &&& b : Nat) : Int) := by
 have e : (a &&& b) < 18446744073709551616 := Nat.lt_of_le_of_lt Nat.and_le_left ha
 have h : (BitVec.ofInt 64 (a : Int) &&& BitVec.ofInt 64 (b : Int)).toNat = a &&& b := by
  rw [BitVec.ofInt_natCast, BitVec.ofInt_natCast, BitVec.toNat_and, BitVec.toNat_ofNat, BitVec.toNat_ofNat, Nat.mod_eq_of_lt ha, Nat.mod_eq_of_lt hb]
 show IntKind.u64.wrap ((BitVec.ofInt 64 (a : Int) &&& BitVec.ofInt 64 (b : Int)).toNat : Int) = _
 rw [h, IntKind.wrap_u64]
 omega
theorem or64 (a b : Nat) (ha : a < 18446744073709551616) (hb : b < 18446744073709551616) : bits .or .u64 (a : Int) (b : Int) = ((a ||| b : Nat) : Int) := by
 have e : (a ||| b) < 2 ^ 64 := Nat.or_lt_two_pow ha hb
 have h : (BitVec.ofInt 64 (a : Int) ||| BitVec.ofInt 64 (b : Int)).toNat = a ||| b := by
  rw [BitVec.ofInt_natCast, BitVec.ofInt_natCast, BitVec.toNat_or, BitVec.toNat_ofNat, BitVec.toNat_ofNat, Nat.mod_eq_of_lt ha, Nat.mod_eq_of_lt hb]
 show IntKind.u64.wrap ((BitVec.ofInt 64 (a : Int) ||| BitVec.ofInt 64 (b : Int)).toNat : Int) = _
 rw [h, IntKind.wrap_u64]
 omega
def clr (a b : Nat) : Nat := a &&& (18446744073709551615 - b)
theorem andNot64 (a b : Nat) (ha : a < 18446744073709551616) (hb : b < 18446744073709551616) : bits .andNot .u64 (a : Int) (b : Int) = ((clr a b : Nat) : Int) := by
 have e : clr a b < 18446744073709551616 := Nat.lt_of_le_of_lt Nat.and_le_left ha
 have h : (BitVec.ofInt 64 (a : Int) &&& ~~~ BitVec.ofInt 64 (b : Int)).toNat = clr a b := by
  rw [BitVec.ofInt_natCast, BitVec.ofInt_natCast, BitVec.toNat_and, BitVec.toNat_not, BitVec.toNat_ofNat, BitVec.toNat_ofNat, Nat.mod_eq_of_lt ha, Nat.mod_eq_of_lt hb]
  rfl
 show IntKind.u64.wrap ((BitVec.ofInt 64 (a : Int) &&& ~~~ BitVec.ofInt 64 (b : Int)).toNat : Int) = _
 rw [h, IntKind.wrap_u64]
 omega
def maskOf (lo hi : Nat) : Nat := (18446744073709551615 * 2 ^ (8 * lo)) % 18446744073709551616 &&& 18446744073709551615 / 2 ^ (8 * (7 - hi))
theorem mask_lt (lo hi : Nat) : maskOf lo hi < 18446744073709551616 := Nat.lt_of_le_of_lt Nat.and_le_left (Nat.mod_lt _ (by omega))
theorem maskG (A B : Int) (lo hi : Nat) (hA : A = (((18446744073709551615 * 2 ^ (8 * lo)) % 18446744073709551616 : Nat) : Int)) (hB : B = ((18446744073709551615 / 2 ^ (8 * (7 - hi)) : Nat) : Int)) :
  bits .and .u64 A B = ((maskOf lo hi : Nat) : Int) := by
 rw [hA, hB, and64 _ _ (Nat.mod_lt _ (by omega)) (Nat.lt_of_le_of_lt (Nat.div_le_self _ _) (by omega))]
 rfl
theorem maskA (lo : Nat) (x : Nat) (hx : x = 8 * lo) : IntKind.u64.wrap (18446744073709551615 * 2 ^ x) = (((18446744073709551615 * 2 ^ (8 * lo)) % 18446744073709551616 : Nat) : Int) := by
 subst hx
 rw [IntKind.wrap_u64, Int.natCast_emod, Int.natCast_mul, Int.natCast_pow]
 rfl
theorem maskB (hi : Nat) (y : Nat) (hy : y = 8 * (7 - hi)) : (18446744073709551615 : Int) / 2 ^ min y 64 = ((18446744073709551615 / 2 ^ (8 * (7 - hi)) : Nat) : Int) := by
 subst hy
 rw [Nat.min_eq_left (by omega), Int.natCast_ediv, Int.natCast_pow]
 rfl
set_option maxRecDepth 100000 in
theorem bitsOf47 (cell first last : Nat) (w : World) (h1 : cell % 8 = 0) (h2 : cell < 18446744073709551616) (h3 : first < 18446744073709551616) (h4 : last < 18446744073709551616) (h5 : cell <= last) (h6 : first <= cell + 7) :
  Calls Tryz.prog 206 #[.int .u64 cell, .int .u64 first, .int .u64 last] w fun e w' => e = .returned (.int .u64 ((maskOf (max first cell - cell) (min last (cell + 7) - cell) : Nat) : Int)) /\ w' = w := by
 have hw : IntKind.u64.wrap (IntKind.u64.wrap ((cell : Int) + 8) - 1) = ((cell + 7 : Nat) : Int) := by rw [IntKind.wrap_u64, IntKind.wrap_u64]; omega
 obtain ⟨c7, hc7⟩ : ∃ c, c = cell + 7 := ⟨_, rfl⟩
 obtain ⟨lo, hlo⟩ : ∃ lo, lo = max first cell - cell := ⟨_, rfl⟩
 obtain ⟨hi, hhi⟩ : ∃ hi, hi = min last (cell + 7) - cell := ⟨_, rfl⟩
 rw [<- hlo, <- hhi]
 rw [<- hc7] at hw h6 hhi
 have H : Hid (lo = max first cell - cell /\ hi = min last c7 - cell /\ c7 = cell + 7) := ⟨hlo, hhi, hc7⟩
 have w1 : ∀ x : Int, 0 <= x -> x < 18446744073709551616 -> IntKind.u64.wrap x = x := fun x a b => by rw [IntKind.wrap_u64]; omega
 have W1 : Hid _ := w1
 clear hlo hhi hc7 w1
 by_cases a : first < cell
 ·by_cases b : c7 < last
  ·go_enter Tryz.func206, Tryz.ntmps206
   go_wp2
   go_ret
   obtain ⟨r1, r2, r3⟩ := H.out
   obtain rfl : lo = 0 := by omega
   refine ⟨congrArg (fun z => Ending.returned (Value.int IntKind.u64 z)) (maskG _ _ 0 hi ?_ ?_), rfl⟩
   ·first | rfl | (rw [IntKind.wrap_u64]; rfl)
   ·refine maskB hi _ ?_
    simp only [IntKind.wrap_u64]
    omega
  ·go_enter Tryz.func206, Tryz.ntmps206
   go_wp2
   go_ret
   obtain ⟨r1, r2, r3⟩ := H.out
   obtain rfl : lo = 0 := by omega
   refine ⟨congrArg (fun z => Ending.returned (Value.int IntKind.u64 z)) (maskG _ _ 0 hi ?_ ?_), rfl⟩
   ·first | rfl | (rw [IntKind.wrap_u64]; rfl)
   ·refine maskB hi _ ?_
    simp only [IntKind.wrap_u64]
    omega
 ·by_cases b : c7 < last
  ·go_enter Tryz.func206, Tryz.ntmps206
   go_wp2
   go_ret
   obtain ⟨r1, r2, r3⟩ := H.out
   refine ⟨congrArg (fun z => Ending.returned (Value.int IntKind.u64 z)) (maskG _ _ lo hi ?_ ?_), rfl⟩
   ·refine maskA lo _ ?_
    simp only [IntKind.wrap_u64]
    omega
   ·refine maskB hi _ ?_
    simp only [IntKind.wrap_u64]
    omega
  ·go_enter Tryz.func206, Tryz.ntmps206
   go_wp2
   go_ret
   obtain ⟨r1, r2, r3⟩ := H.out
   refine ⟨congrArg (fun z => Ending.returned (Value.int IntKind.u64 z)) (maskG _ _ lo hi ?_ ?_), rfl⟩
   ·refine maskA lo _ ?_
    simp only [IntKind.wrap_u64]
    omega
   ·refine maskB hi _ ?_
    simp only [IntKind.wrap_u64]
    omega
end Go.Proofs.YtimfipkbddpdmaaGreatDoor.Gm
