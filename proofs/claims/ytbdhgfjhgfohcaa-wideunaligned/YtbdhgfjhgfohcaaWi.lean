/- What is proved here: the document's parts of words: places, bytes, words. -/
import Derived.Test.YtbdhgfjhgfohcaaWh
namespace Go.Proofs.Ytbdhgfjhgfohcaa
open Go.RowKit
set_option linter.unusedVariables false
set_option linter.unusedSimpArgs false
set_option maxRecDepth 100000
theorem place31 (a : Int) (w : World) : Calls Try.prog 31 #[.int .i64 a] w fun e w' => e = .returned (.int .i64 ((aheadN a : Nat) : Int)) ∧ w' = w := by
  have h1 : (IntKind.u64.wrap a).tmod 4 = ((aheadN a : Nat) : Int) := by
    rw [IntKind.wrap_u64, Int.tmod_eq_emod_of_nonneg (by omega)]; unfold aheadN; omega
  have h2 : Hid (wrap64 ((aheadN a : Nat) : Int) = ((aheadN a : Nat) : Int)) := by show _ = _; unfold wrap64 aheadN; omega
  generalize aheadN a = k at *
  go_enter Try.func31, Try.ntmps31
  go_wp2
  go_ret
  exact ⟨ret_int (by first | rfl | exact h2.out), rfl⟩
def byN (v k : Nat) : Nat := v / 2 ^ (24 - 8 * k) % 256
theorem by_lt (v k : Nat) : byN v k < 256 := Nat.mod_lt _ (by decide)
theorem and_u32 (a b : Nat) (ha : a < 4294967296) (hb : b < 4294967296) : bits .and .u32 (a : Int) (b : Int) = ((a &&& b : Nat) : Int) := (bits_nat .u32 32 (by decide) (fun n h0 h1 => by rw [IntKind.wrap_u32]; omega) a b (by omega) (by omega)).1
theorem and_255 (v d : Nat) (hv : v < 4294967296) : bits .and .u32 ((v : Int) / (d : Int)) 255 = ((v / d % 256 : Nat) : Int) := by
  have h : v / d ≤ v := Nat.div_le_self _ _
  rw [show (v : Int) / (d : Int) = ((v / d : Nat) : Int) from by simp, show (255 : Int) = ((255 : Nat) : Int) from rfl, and_u32 _ _ (by omega) (by decide)]
  rw [show v / d &&& 255 = v / d % 256 from Nat.and_two_pow_sub_one_eq_mod _ 8]
theorem byteOf32 (v k : Nat) (hv : v < 4294967296) (hk : k ≤ 3) (w : World) : Calls Try.prog 32 #[.int .u32 (v : Int), .int .i64 (k : Int)] w fun e w' => e = .returned (.int .u32 ((byN v k : Nat) : Int)) ∧ w' = w := by
  have h : k = 0 ∨ k = 1 ∨ k = 2 ∨ k = 3 := by omega
  rcases h with h | h | h | h
  · subst h
    have e : Hid _ := and_255 v 16777216 hv
    go_enter Try.func32, Try.ntmps32
    go_wp2
    go_ret
    exact ⟨ret_int e.out, rfl⟩
  · subst h
    have e : Hid _ := and_255 v 65536 hv
    go_enter Try.func32, Try.ntmps32
    go_wp2
    go_ret
    exact ⟨ret_int e.out, rfl⟩
  · subst h
    have e : Hid _ := and_255 v 256 hv
    go_enter Try.func32, Try.ntmps32
    go_wp2
    go_ret
    exact ⟨ret_int e.out, rfl⟩
  · subst h
    have e : bits .and .u32 (v : Int) 255 = ((byN v 3 : Nat) : Int) := by
      have e := and_255 v 1 hv
      rw [show (v : Int) / ((1 : Nat) : Int) = (v : Int) from by simp] at e
      exact e
    go_enter Try.func32, Try.ntmps32
    go_wp2
    go_ret
    exact ⟨rfl, rfl⟩
def wdN (a b c d : Nat) : Nat := a * 16777216 + b * 65536 + c * 256 + d
theorem wd_key (a b c d : Nat) (ha : a < 256) (hb : b < 256) (hc : c < 256) (hd : d < 256) :
    bits .or .u32 (bits .or .u32 (bits .or .u32 ((a : Int) * 16777216) ((b : Int) * 65536)) ((c : Int) * 256)) (d : Int) = ((wdN a b c d : Nat) : Int) := by
  have e1 := Nat.two_pow_add_eq_or_of_lt (i := 24) (b := b * 65536) (by omega) a
  have e2 := Nat.two_pow_add_eq_or_of_lt (i := 16) (b := c * 256) (by omega) (a * 256 + b)
  have e3 := Nat.two_pow_add_eq_or_of_lt (i := 8) (b := d) (by omega) (a * 65536 + b * 256 + c)
  have x1 : 2 ^ 24 * a = a * 16777216 := by omega
  have x2 : 2 ^ 16 * (a * 256 + b) = a * 16777216 + b * 65536 := by omega
  have x3 : 2 ^ 8 * (a * 65536 + b * 256 + c) = a * 16777216 + b * 65536 + c * 256 := by omega
  rw [x1] at e1
  rw [x2] at e2
  rw [x3] at e3
  rw [show (a : Int) * 16777216 = ((a * 16777216 : Nat) : Int) from by simp, show (b : Int) * 65536 = ((b * 65536 : Nat) : Int) from by simp, show (c : Int) * 256 = ((c * 256 : Nat) : Int) from by simp]
  rw [or_u32 _ _ (by omega) (by omega), ← e1, or_u32 _ _ (by omega) (by omega), ← e2, or_u32 _ _ (by omega) (by omega), ← e3]
  rfl
theorem box4 (w : World) (a b c d : Value) (t : Nat) : ∃ W, w.alloc (.cells #[a, b, c, d] t) = W ∧ Below w.heap.size w W ∧ W.heap.size = w.heap.size + 1 ∧ W.cell? ⟨w.heap.size, 0, none⟩ = some a ∧ W.cell? ⟨w.heap.size, 1, none⟩ = some b ∧ W.cell? ⟨w.heap.size, 2, none⟩ = some c ∧ W.cell? ⟨w.heap.size, 3, none⟩ = some d := by
  refine ⟨_, rfl, (Below.refl _ _).alloc (Nat.le_refl _) _, by simp, ?_, ?_, ?_, ?_⟩ <;> exact cell_newA w _ _ _ _ _ rfl rfl
set_option maxHeartbeats 1000000 in
theorem word33 (a b c d : Nat) (ha : a < 256) (hb : b < 256) (hc : c < 256) (hd : d < 256) (w : World) : Calls Try.prog 33 #[.agg #[.int .u32 (a : Int), .int .u32 (b : Int), .int .u32 (c : Int), .int .u32 (d : Int)]] w fun e w' => e = .returned (.int .u32 ((wdN a b c d : Nat) : Int)) ∧ Below w.heap.size w w' := by
  obtain ⟨W, hW, hbe, hz, c0, c1, c2, c3⟩ := box4 w (.int .u32 (a : Int)) (.int .u32 (b : Int)) (.int .u32 (c : Int)) (.int .u32 (d : Int)) 44
  have HB : Hid (Below w.heap.size w W) := hbe
  have hk : Hid _ := wd_key a b c d ha hb hc hd
  clear hbe hz
  go_enter Try.func33, Try.ntmps33
  go_wp2
  go_ret
  exact ⟨ret_int hk.out, HB.out⟩
end Go.Proofs.Ytbdhgfjhgfohcaa
