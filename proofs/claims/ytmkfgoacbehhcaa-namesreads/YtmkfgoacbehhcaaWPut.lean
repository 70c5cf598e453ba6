/- What is proved here: swap.PutBe and swap.PutLe tell, for every number and every length, the number's lowest bytes in either order, nothing where the length is not 0 to 8. -/
import Derived.Test.YtmkfgoacbehhcaaWText
namespace Go.Proofs.Ytmkfgoacbehhcaa.W
open Go.RowKit Go.Shelf
set_option linter.unusedVariables false
set_option linter.unusedSimpArgs false
set_option maxRecDepth 100000

/-- The n lowest bytes of a number, the lowest first. -/
def leB (v : Nat) : Nat → List UInt8
  | 0 => []
  | n + 1 => leB v n ++ [UInt8.ofNat (byteAt v n)]
theorem leB_length (v n : Nat) : (leB v n).length = n := by
  induction n with
  | zero => rfl
  | succ n ih => simp [leB, ih]
theorem leB_get (v n i : Nat) (h : i < (leB v n).length) : (leB v n)[i] = UInt8.ofNat (byteAt v i) := by
  induction n with
  | zero => simp [leB] at h
  | succ n ih =>
    simp only [leB, List.getElem_append]
    split
    · exact ih _
    · rename_i h2
      have h3 : i = n := by simp [leB, leB_length] at h h2; omega
      subst h3
      simp
theorem up_leB (v n k : Nat) (h : k ≤ n) : (upTo n k h).map (fun x => UInt8.ofNat (byteAt v x.val)) = leB v k := by
  induction k with
  | zero => rfl
  | succ k ih => simp [upTo, leB, ih]
theorem down_leB (v n : Nat) : ∀ (k : Nat) (h : k ≤ n), (downTo n k h).map (fun x => UInt8.ofNat (byteAt v x.val)) = (leB v n).reverse.take k
  | 0, _ => by simp [downTo]
  | k + 1, h => by
    rw [downTo, List.map_append, down_leB v n k, List.take_succ_eq_append_getElem (by simp [leB_length]; omega), List.getElem_reverse, leB_get]
    simp [leB_length]
theorem down_all (v n : Nat) : (downTo n n (Nat.le_refl _)).map (fun x => UInt8.ofNat (byteAt v x.val)) = (leB v n).reverse := by
  rw [down_leB, List.take_of_length_le (by simp [leB_length])]

def putLeS (v : Nat) (n : Int) : ByteArray := if 0 ≤ n ∧ n ≤ 8 then ⟨(leB v n.toNat).toArray⟩ else ⟨#[]⟩
def putBeS (v : Nat) (n : Int) : ByteArray := if 0 ≤ n ∧ n ≤ 8 then ⟨(leB v n.toNat).reverse.toArray⟩ else ⟨#[]⟩

set_option maxHeartbeats 400000 in
theorem text_low (v n : Int) (hn : n < 0) (g : Value) (w : World) :
    Calls Try.prog 54 #[.int .u64 v, .int .i64 n, g] w fun e w' => e = .returned (.string ⟨#[]⟩) ∧ Below w.heap.size w w' := by
  go_enter Try.func54, Try.ntmps54
  go_wp2
  go_ret
  exact ⟨rfl, (Below.refl _ _).alloc (Nat.le_refl _) _⟩
set_option maxHeartbeats 400000 in
theorem text_high (v n : Int) (hn : 8 < n) (g : Value) (w : World) :
    Calls Try.prog 54 #[.int .u64 v, .int .i64 n, g] w fun e w' => e = .returned (.string ⟨#[]⟩) ∧ Below w.heap.size w w' := by
  go_enter Try.func54, Try.ntmps54
  go_wp2
  go_ret
  exact ⟨rfl, (Below.refl _ _).alloc (Nat.le_refl _) _⟩

theorem text_up (v : Nat) (n : Int) (w0 : World) (B : Nat) (hB : B < w0.heap.size) (hc : w0.cell? ⟨B, 0, none⟩ = some (.int .i64 n)) :
    Calls Try.prog 54 #[.int .u64 (v : Int), .int .i64 n, .func (.func 53) #[] #[.pointer (some ⟨B, 0, none⟩)]] w0 fun e w' => e = .returned (.string (putLeS v n)) ∧ Below w0.heap.size w0 w' := by
  by_cases h0 : 0 ≤ n
  · by_cases h8 : n ≤ 8
    · obtain ⟨k, rfl⟩ := Int.eq_ofNat_of_zero_le h0
      refine (callsIn_wide (n := 3)).1 ((text_in Fence.wide 3 53 trivial trivial rfl (by decide) (enters_of Try.func53 (by kernel_rfl) rfl) v k (by omega) (upTo k k (Nat.le_refl _)) _ w0 ?_).mono ?_)
      · intro w1 hb
        exact forward_stops Fence.wide 2 trivial rfl (by decide) B w0.heap.size k (by omega) hB w1 hb.size ((hb.cell (p := ⟨B, 0, none⟩) hB).trans hc)
      · rintro e W' ⟨rfl, hb⟩
        refine ⟨?_, hb⟩
        rw [up_leB, putLeS, if_pos ⟨h0, h8⟩, Int.toNat_natCast]
    · rw [putLeS, if_neg (by omega)]
      exact text_high v n (by omega) _ w0
  · rw [putLeS, if_neg (by omega)]
    exact text_low v n (by omega) _ w0
theorem text_down (v : Nat) (n : Int) (w0 : World) (B : Nat) (hB : B < w0.heap.size) (hc : w0.cell? ⟨B, 0, none⟩ = some (.int .i64 n)) :
    Calls Try.prog 54 #[.int .u64 (v : Int), .int .i64 n, .func (.func 62) #[] #[.pointer (some ⟨B, 0, none⟩)]] w0 fun e w' => e = .returned (.string (putBeS v n)) ∧ Below w0.heap.size w0 w' := by
  by_cases h0 : 0 ≤ n
  · by_cases h8 : n ≤ 8
    · obtain ⟨k, rfl⟩ := Int.eq_ofNat_of_zero_le h0
      refine (callsIn_wide (n := 3)).1 ((text_in Fence.wide 3 62 trivial trivial rfl (by decide) (enters_of Try.func62 (by kernel_rfl) rfl) v k (by omega) (downTo k k (Nat.le_refl _)) _ w0 ?_).mono ?_)
      · intro w1 hb
        exact backward_stops Fence.wide 2 trivial rfl (by decide) B w0.heap.size k (by omega) hB w1 hb.size ((hb.cell (p := ⟨B, 0, none⟩) hB).trans hc)
      · rintro e W' ⟨rfl, hb⟩
        refine ⟨?_, hb⟩
        rw [down_all, putBeS, if_pos ⟨h0, h8⟩, Int.toNat_natCast]
    · rw [putBeS, if_neg (by omega)]
      exact text_high v n (by omega) _ w0
  · rw [putBeS, if_neg (by omega)]
    exact text_low v n (by omega) _ w0

set_option maxHeartbeats 400000 in

set_option maxHeartbeats 400000 in
theorem putBe_any (v : Nat) (n : Int) (w : World) :
    Calls Try.prog 48 #[.int .u64 (v : Int), .int .i64 n] w fun e w' => e = .returned (.string (putBeS v n)) ∧ Below w.heap.size w w' := by
  go_enter Try.func48, Try.ntmps48
  go_wp2_with fail
  refine (backward_any _ _).mono ?_
  rintro e w' ⟨rfl, rfl⟩
  go_wp2_with fail
  refine (text_down v n _ w.heap.size (by simp) (Boxed.new w 3 _).cell).mono ?_
  rintro e w' ⟨rfl, hb⟩
  go_wp2
  go_ret
  exact ⟨rfl, ((Below.refl _ _).alloc (Nat.le_refl _) _).trans (hb.mono (by simp))⟩

end Go.Proofs.Ytmkfgoacbehhcaa.W
