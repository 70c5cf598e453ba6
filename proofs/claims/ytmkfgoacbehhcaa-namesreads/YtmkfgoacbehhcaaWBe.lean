/- What is proved here: swap.Be and swap.Le tell, for every text, the number of its bytes in either order, 0 beyond 8 bytes. -/
import Derived.Test.YtmkfgoacbehhcaaWNum
namespace Go.Proofs.Ytmkfgoacbehhcaa.W
open Go.RowKit Go.Shelf
set_option linter.unusedVariables false
set_option linter.unusedSimpArgs false
set_option maxRecDepth 100000

/-- The number of some bytes, the highest first. -/
def beL (l : List UInt8) : Nat := l.foldl (fun v c => v * 256 + c.toNat) 0
theorem beL_snoc (l : List UInt8) (c : UInt8) : beL (l ++ [c]) = beL l * 256 + c.toNat := by simp [beL]
theorem foldl_lt (l : List UInt8) : ∀ v : Nat, l.foldl (fun v c => v * 256 + c.toNat) v < (v + 1) * 256 ^ l.length := by
  induction l with
  | nil => intro v; simp
  | cons c m ih =>
    intro v
    have h1 := ih (v * 256 + c.toNat)
    have h2 := c.toNat_lt
    have h3 : (v * 256 + c.toNat + 1) * 256 ^ m.length ≤ ((v + 1) * 256) * 256 ^ m.length := Nat.mul_le_mul_right _ (by omega)
    simp only [List.foldl_cons, List.length_cons, Nat.pow_succ]
    rw [Nat.mul_comm (256 ^ m.length) 256, ← Nat.mul_assoc]
    omega
theorem beL_lt (l : List UInt8) : beL l < 256 ^ l.length := by
  have h := foldl_lt l 0
  simpa [beL] using h

theorem numOf_up (s : ByteArray) : ∀ (k : Nat) (h : k ≤ s.size), numOf s (upTo s.size k h) = beL (s.data.toList.take k)
  | 0, _ => rfl
  | k + 1, h => by
    rw [upTo, numOf_snoc, numOf_up s k, List.take_succ_eq_append_getElem (by simp; omega), beL_snoc]; rfl
theorem numOf_down (s : ByteArray) : ∀ (k : Nat) (h : k ≤ s.size), numOf s (downTo s.size k h) = beL (s.data.toList.reverse.take k)
  | 0, _ => rfl
  | k + 1, h => by
    rw [downTo, numOf_snoc, numOf_down s k, List.take_succ_eq_append_getElem (by simp; omega), beL_snoc, List.getElem_reverse]; rfl

def beS (s : ByteArray) : Nat := if s.size ≤ 8 then beL s.data.toList else 0
def leS (s : ByteArray) : Nat := if s.size ≤ 8 then beL s.data.toList.reverse else 0

set_option maxHeartbeats 400000 in
theorem number_long (s : ByteArray) (hs : 8 < s.size) (g : Value) (w : World) :
    Calls Try.prog 46 #[.string s, g] w fun e w' => e = .returned (.int .u64 0) ∧ Below w.heap.size w w' := by
  go_enter Try.func46, Try.ntmps46
  go_wp2
  go_ret
  exact ⟨rfl, (Below.refl _ _).alloc (Nat.le_refl _) _⟩

theorem number_up (s : ByteArray) (w0 : World) (B : Nat) (hB : B < w0.heap.size) (hc : w0.cell? ⟨B, 0, none⟩ = some (.int .i64 (s.size : Int))) :
    Calls Try.prog 46 #[.string s, .func (.func 53) #[] #[.pointer (some ⟨B, 0, none⟩)]] w0 fun e w' => e = .returned (.int .u64 (beS s : Int)) ∧ Below w0.heap.size w0 w' := by
  by_cases hs : s.size ≤ 8
  · refine (callsIn_wide (n := 3)).1 ((number_in Fence.wide 3 53 trivial trivial rfl (by decide) (enters_of Try.func53 (by kernel_rfl) rfl) s hs (upTo s.size s.size (Nat.le_refl _)) _ w0 ?_).mono ?_)
    · intro w1 hb
      exact forward_stops Fence.wide 2 trivial rfl (by decide) B w0.heap.size s.size (by omega) hB w1 hb.size ((hb.cell (p := ⟨B, 0, none⟩) hB).trans hc)
    · rintro e W' ⟨rfl, hb⟩
      refine ⟨?_, hb⟩
      rw [numOf_up, beS, if_pos hs, List.take_of_length_le (by simp)]
  · rw [beS, if_neg hs]
    exact number_long s (by omega) _ w0
theorem number_down (s : ByteArray) (w0 : World) (B : Nat) (hB : B < w0.heap.size) (hc : w0.cell? ⟨B, 0, none⟩ = some (.int .i64 (s.size : Int))) :
    Calls Try.prog 46 #[.string s, .func (.func 62) #[] #[.pointer (some ⟨B, 0, none⟩)]] w0 fun e w' => e = .returned (.int .u64 (leS s : Int)) ∧ Below w0.heap.size w0 w' := by
  by_cases hs : s.size ≤ 8
  · refine (callsIn_wide (n := 3)).1 ((number_in Fence.wide 3 62 trivial trivial rfl (by decide) (enters_of Try.func62 (by kernel_rfl) rfl) s hs (downTo s.size s.size (Nat.le_refl _)) _ w0 ?_).mono ?_)
    · intro w1 hb
      exact backward_stops Fence.wide 2 trivial rfl (by decide) B w0.heap.size s.size (by omega) hB w1 hb.size ((hb.cell (p := ⟨B, 0, none⟩) hB).trans hc)
    · rintro e W' ⟨rfl, hb⟩
      refine ⟨?_, hb⟩
      rw [numOf_down, leS, if_pos hs, List.take_of_length_le (by simp)]
  · rw [leS, if_neg hs]
    exact number_long s (by omega) _ w0

set_option maxHeartbeats 400000 in
theorem be_any (s : ByteArray) (w : World) :
    Calls Try.prog 34 #[.string s] w fun e w' => e = .returned (.int .u64 (beS s : Int)) ∧ Below w.heap.size w w' := by
  go_enter Try.func34, Try.ntmps34
  go_wp2_with fail
  refine (forward_any _ _).mono ?_
  rintro e w' ⟨rfl, rfl⟩
  go_wp2_with fail
  refine (number_up s _ w.heap.size (by simp) (Boxed.new w 3 _).cell).mono ?_
  rintro e w' ⟨rfl, hb⟩
  go_wp2
  go_ret
  exact ⟨rfl, ((Below.refl _ _).alloc (Nat.le_refl _) _).trans (hb.mono (by simp))⟩

end Go.Proofs.Ytmkfgoacbehhcaa.W
