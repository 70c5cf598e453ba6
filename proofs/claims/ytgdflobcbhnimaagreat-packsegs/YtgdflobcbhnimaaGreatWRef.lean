/- What is proved here: the document's Be, Le, PutBe and PutLe tell the same bytes and numbers as swap's. -/
import Derived.WalkSpells
import Derived.WalkLawsBesides
import Derived.Deep.OwnRows
import Derived.Test.YtgdflobcbhnimaaGreatWPut
namespace Go.Proofs.YtgdflobcbhnimaaGreat.W
open Go.RowKit Go.Shelf
set_option linter.unusedVariables false
set_option linter.unusedSimpArgs false
set_option maxRecDepth 100000

theorem ret_u64 {a b : Int} (h : a = b) : Ending.returned (.int .u64 a) = .returned (.int .u64 b) := by rw [h]
theorem beL_take (s : ByteArray) (k : Nat) (h : k < s.size) : beL (s.data.toList.take (k + 1)) = beL (s.data.toList.take k) * 256 + (s[k]).toNat := by
  rw [List.take_succ_eq_append_getElem (by simpa using h), beL_snoc]; rfl
theorem beL_le7 (l : List UInt8) (h : l.length ≤ 7) : beL l ≤ 72057594037927935 := by
  have h1 := beL_lt l
  have h2 : 256 ^ l.length ≤ 256 ^ 7 := Nat.pow_le_pow_right (by decide) h
  have h3 : 256 ^ 7 = 72057594037927936 := by decide
  omega

set_option maxHeartbeats 400000 in
theorem rbe_any (s : ByteArray) (w : World) (hs : s.size ≤ 1000000) :
    Calls Tryz.prog 17 #[.string s] w fun e w' => e = .returned (.int .u64 (beS s : Int)) ∧ w' = w := by
  by_cases h8 : s.size ≤ 8
  · have hfin : Hid (((beS s : Nat) : Int) = ((beL (s.data.toList.take s.size) : Nat) : Int)) := by
      rw [beS, if_pos h8, List.take_of_length_le (by simp)]; rfl
    go_enter Tryz.func17, Tryz.ntmps17
    go_wp2
    go_loop [3, 4] (fun v i => ∃ k : Nat, k ≤ s.size ∧ i = .int .i64 k ∧ v = .int .u64 ((beL (s.data.toList.take k) : Nat) : Int)) (fun _ i => s.size - (intOf i).toNat)
    case atStart => exact ⟨0, Nat.zero_le _, rfl, rfl⟩
    case round =>
      obtain ⟨k, hk, rfl, rfl⟩ := hrel
      by_cases hlt : k < s.size
      · have hl : (s.data.toList.take k).length ≤ 7 := by simp; omega
        have hb := beL_le7 _ hl
        have hs1 : Hid (((beL (s.data.toList.take (k + 1)) : Nat) : Int) = ((beL (s.data.toList.take k) : Nat) : Int) * 256 + ((s[k]).toNat : Int)) := by
          rw [beL_take s k hlt]; simp [Hid]
        have hc : (s[k]).toNat < 256 := (s[k]).toNat_lt
        go_wp2
        go_round
        case rel => exact ⟨k + 1, by omega, by go_num, by rw [hs1.out]⟩
        case measure => simp [intOf]; omega
      · obtain rfl : k = s.size := by omega
        go_wp2
        go_ret
        exact ⟨ret_u64 hfin.out.symm, rfl⟩
  · rw [beS, if_neg h8]
    go_enter Tryz.func17, Tryz.ntmps17
    go_wp2
    go_ret
    exact ⟨rfl, rfl⟩

set_option maxHeartbeats 400000 in

def zeroRow (n : Nat) : List Value := List.replicate n (.int .u8 0)
def byteC (c : UInt8) : Value := .int .u8 (c.toNat : Int)
def rowBe (v n k : Nat) : List Value := List.replicate (n - k) (.int .u8 0) ++ (leB v k).reverse.map byteC
theorem byteC_at (v k : Nat) : byteC (UInt8.ofNat (byteAt v k)) = .int .u8 ((byteAt v k : Nat) : Int) := by
  simp [byteC, Nat.mod_eq_of_lt (byteAt_lt v k)]
theorem rowBe_set (v n k : Nat) (h : k < n) : (rowBe v n k).set (n - 1 - k) (.int .u8 ((byteAt v k : Nat) : Int)) = rowBe v n (k + 1) := by
  obtain ⟨r, hr⟩ : ∃ r, n - k = r + 1 := ⟨n - k - 1, by omega⟩
  have h1 : n - (k + 1) = r := by omega
  have h2 : n - 1 - k = r := by omega
  rw [rowBe, rowBe, hr, h1, h2, List.replicate_succ', List.append_assoc, List.set_append_right _ _ (by simp)]
  simp [leB, byteC_at]
theorem rowBe_length (v n k : Nat) (h : k ≤ n) : (rowBe v n k).length = n := by simp [rowBe, leB_length]; omega
theorem shr_byte (v k : Nat) : v / 2 ^ (8 * k) / 256 = v / 2 ^ (8 * (k + 1)) := by
  rw [Nat.div_div_eq_div_mul, Nat.mul_add, Nat.pow_add]
theorem mkRow (n : Nat) (hn : n ≤ 8) (w : World) : (Instr.makeSlice 61 (.int .i64 (n : Int)) (.int .i64 (n : Int))).run Tryz.prog w = .ok (.slice (some ⟨w.heap.size, 0, none⟩) n n) (w.alloc (.cells (zeroRow n).toArray 5)) := by
  have h := run_make_row' (P := Tryz.prog) 61 5 (.int .u8 0) 1 Tryz.underlying61 (by kernel_rfl) rfl .i64 .i64 n (by omega) (by omega) w
  rw [h]
  have e : madeCells #[.int .u8 0] n = (zeroRow n).toArray := by
    apply Array.ext
    · simp [size_madeCells, zeroRow]
    · intro i h1 h2
      simp [madeCells, zeroRow, Nat.mod_one]
  rw [e]
theorem conv_row (W : World) (B cap : Nat) (l : List UInt8) (hR : RowAt W B (l.map byteC)) : (convert 61 9 (.slice (some ⟨B, 0, none⟩) l.length cap)).run Tryz.prog W = .ok (.string ⟨l.toArray⟩) W := by
  refine run_convert_bytes_back (P := Tryz.prog) W 61 9 5 ⟨B, 0, none⟩ cap l Tryz.underlying61 Tryz.underlying5 Tryz.underlying9 ?_
  intro j hj
  have h := hR.cell j (by simpa using hj)
  have ha : (Addr.add ⟨B, 0, none⟩ j) = ⟨B, j, none⟩ := by unfold Addr.add; split <;> simp_all
  rw [ha, h]
  simp [byteC]

set_option maxHeartbeats 1000000 in
theorem rputBe_in (v n : Nat) (hv : v < 18446744073709551616) (hn : n ≤ 8) (w : World) :
    Calls Tryz.prog 100 #[.int .u64 (v : Int), .int .i64 (n : Int)] w fun e w' => e = .returned (.string ⟨(leB v n).reverse.toArray⟩) ∧ Below w.heap.size w w' := by
  have hmk := mkRow n hn
  go_enter Tryz.func100, Tryz.ntmps100
  go_wp2
  go_loopw [0, 6] (fun x i wr => ∃ k : Nat, k ≤ n ∧ i = .int .i64 ((n : Int) - 1 - k) ∧ x = .int .u64 ((v / 2 ^ (8 * k) : Nat) : Int) ∧ RowAt wr w.heap.size (rowBe v n k) ∧ Below w.heap.size w wr) (fun _ i _ => (intOf i + 1).toNat)
  case atStart => exact ⟨0, Nat.zero_le _, by simp, by simp, (by have := World.alloc_heap_new w (.cells (zeroRow n).toArray 5); simpa [RowAt, rowBe, leB, zeroRow] using this), (Below.refl _ _).alloc (Nat.le_refl _) _⟩
  case round =>
    obtain ⟨k, hk, rfl, rfl, hR, hB⟩ := hrel
    have hx : v / 2 ^ (8 * k) < 18446744073709551616 := Nat.lt_of_le_of_lt (Nat.div_le_self _ _) hv
    by_cases hlt : k < n
    · obtain ⟨j, u, hj, hjk, hcell, hfr, hRs⟩ : ∃ (j : Nat) (u : Value), j < n ∧ (n : Int) - 1 - k = (j : Int) ∧ wr.cell? ⟨w.heap.size, j, none⟩ = some u ∧ wr.frozen? ⟨w.heap.size, j, none⟩ = false ∧ Hid (RowAt (wr.setCell ⟨w.heap.size, j, none⟩ (.int .u8 ((byteAt v k : Nat) : Int))) w.heap.size (rowBe v n (k + 1))) := by
        refine ⟨n - 1 - k, _, by omega, by omega, hR.cell (n - 1 - k) (by rw [rowBe_length v n k hk]; omega), hR.frozen _, ?_⟩
        rw [← rowBe_set v n k hlt]; exact hR.set _ _
      have hsh : Hid ((((v / 2 ^ (8 * k) : Nat) : Int) / 256) = ((v / 2 ^ (8 * (k + 1)) : Nat) : Int)) := by
        rw [← shr_byte]; simp [Hid]
      have hbt : Hid ((((v / 2 ^ (8 * k) : Nat) : Int) % 256) = ((byteAt v k : Nat) : Int)) := by simp [Hid, byteAt]
      rw [hjk]
      have hi3 : Hid ((n : Int) - 1 - k = (j : Int)) := hjk
      clear hjk
      generalize v / 2 ^ (8 * k) = x at *
      go_wp2
      refine ⟨⟨k + 1, by omega, ?_, by rw [hsh.out], by rw [hbt.out]; exact hRs.out, hB.setCell (p := ⟨w.heap.size, j, none⟩) (Nat.le_refl _) _⟩, by simp [intOf]⟩
      rw [show (j : Int) - 1 = (n : Int) - 1 - ((k + 1 : Nat) : Int) from by have := hi3.out; omega]
    · obtain rfl : k = n := by omega
      have hconv := conv_row wr w.heap.size k (leB v k).reverse (by simpa [rowBe] using hR)
      rw [List.length_reverse, leB_length] at hconv
      go_wp2
      go_ret
      exact ⟨rfl, hB⟩

set_option maxHeartbeats 1000000 in

set_option maxHeartbeats 400000 in
theorem rputBe_out (v n : Int) (hn : n < 0 ∨ 8 < n) (w : World) :
    Calls Tryz.prog 100 #[.int .u64 v, .int .i64 n] w fun e w' => e = .returned (.string ⟨#[]⟩) ∧ w' = w := by
  rcases hn with hn | hn
  all_goals
    go_enter Tryz.func100, Tryz.ntmps100
    go_wp2
    go_ret
    exact ⟨rfl, rfl⟩
set_option maxHeartbeats 400000 in

theorem rputBe_any (v : Nat) (hv : v < 18446744073709551616) (n : Int) (w : World) :
    Calls Tryz.prog 100 #[.int .u64 (v : Int), .int .i64 n] w fun e w' => e = .returned (.string (putBeS v n)) ∧ Below w.heap.size w w' := by
  by_cases h : 0 ≤ n ∧ n ≤ 8
  · obtain ⟨k, rfl⟩ := Int.eq_ofNat_of_zero_le h.1
    rw [putBeS, if_pos h, Int.toNat_natCast]
    exact rputBe_in v k hv (by omega) w
  · rw [putBeS, if_neg h]
    exact (rputBe_out v n (by omega) w).mono fun e w' ⟨h1, h2⟩ => ⟨h1, by rw [h2]; exact Below.refl _ _⟩
end Go.Proofs.YtgdflobcbhnimaaGreat.W
