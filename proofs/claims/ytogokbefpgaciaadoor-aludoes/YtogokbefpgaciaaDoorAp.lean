/- What is proved here: the document's small functions of alu. -/
import Derived.Test.YtogokbefpgaciaaDoorAk
namespace Go.Proofs.YtogokbefpgaciaaDoor
open Go.RowKit
set_option linter.unusedVariables false
set_option linter.unusedSimpArgs false
set_option maxRecDepth 100000
theorem xor_top (a : Nat) (ha : a < 4294967296) : a ^^^ 2147483648 = if a < 2147483648 then a + 2147483648 else a - 2147483648 := by
  have key : ∀ b, b < 2147483648 → b ^^^ 2147483648 = b + 2147483648 := by
    intro b hb
    apply Nat.eq_of_testBit_eq
    intro i
    rw [Nat.testBit_xor, show (2147483648 : Nat) = 2 ^ 31 from rfl, Nat.testBit_two_pow, Nat.add_comm b]
    by_cases h1 : i < 31
    · rw [Nat.testBit_two_pow_add_gt h1, decide_eq_false (show ¬ 31 = i by omega)]; simp
    · by_cases h2 : i = 31
      · subst h2; rw [Nat.testBit_two_pow_add_eq]; simp
      · have e1 : b.testBit i = false := Nat.testBit_lt_two_pow (Nat.lt_of_lt_of_le hb (Nat.pow_le_pow_right (show 2 > 0 by decide) (show 31 ≤ i by omega)))
        have e2 : (2 ^ 31 + b).testBit i = false := Nat.testBit_lt_two_pow (Nat.lt_of_lt_of_le (show 2 ^ 31 + b < 2 ^ 32 by omega) (Nat.pow_le_pow_right (show 2 > 0 by decide) (show 32 ≤ i by omega)))
        rw [e1, e2, decide_eq_false (show ¬ 31 = i by omega)]; rfl
  by_cases h : a < 2147483648
  · rw [if_pos h, key a h]
  · rw [if_neg h]
    have h2 := key (a - 2147483648) (by omega)
    have h3 : a = (a - 2147483648) ^^^ 2147483648 := by rw [h2]; omega
    calc a ^^^ 2147483648 = ((a - 2147483648) ^^^ 2147483648) ^^^ 2147483648 := by rw [← h3]
      _ = a - 2147483648 := by rw [Nat.xor_assoc, Nat.xor_self, Nat.xor_zero]
theorem less_is (a b : Nat) (ha : a < 4294967296) (hb : b < 4294967296) : decide (a ^^^ 2147483648 < b ^^^ 2147483648) = decide (sg a < sg b) := by
  rw [xor_top a ha, xor_top b hb]
  congr 1
  unfold sg
  apply propext
  split <;> split <;> omega
theorem less24 (a b : Nat) (ha : a < 4294967296) (hb : b < 4294967296) (w : World) : Calls Tryd.prog 24 #[.int .u32 (a : Int), .int .u32 (b : Int)] w fun e w' => e = .returned (.bool (decide (sg a < sg b))) ∧ w' = w := by
  have h1 : bits .xor .u32 (a : Int) 2147483648 = ((a ^^^ 2147483648 : Nat) : Int) := xor_u32 a 2147483648 ha (by decide)
  have h2 : bits .xor .u32 (b : Int) 2147483648 = ((b ^^^ 2147483648 : Nat) : Int) := xor_u32 b 2147483648 hb (by decide)
  have h3 := less_is a b ha hb
  have h4 : Hid (decide (((a ^^^ 2147483648 : Nat) : Int) < ((b ^^^ 2147483648 : Nat) : Int)) = decide (sg a < sg b)) := by show _ = _; rw [← h3]; simp
  generalize decide (sg a < sg b) = r at h4 ⊢
  generalize a ^^^ 2147483648 = x at h1 h4
  generalize b ^^^ 2147483648 = y at h2 h4
  clear h3
  go_enter Tryd.func24, Tryd.ntmps24
  go_wp2
  go_ret
  exact ⟨by rw [← h4.out]; first | rfl | simp, rfl⟩
theorem bit23 (b : Bool) (w : World) : Calls Tryd.prog 23 #[.bool b] w fun e w' => e = .returned (.int .u32 (bitN b : Int)) ∧ w' = w := by
  cases b
  all_goals
    go_enter Tryd.func23, Tryd.ntmps23
    go_wp2
    go_ret
    exact ⟨rfl, rfl⟩
def sgn (m : Bool) (b : Nat) : Int := if m then - sg b else sg b
set_option maxHeartbeats 1000000 in
theorem over22 (a b : Nat) (m : Bool) (ha : a < 4294967296) (hb : b < 4294967296) (w : World) : Calls Tryd.prog 22 #[.int .u32 (a : Int), .int .u32 (b : Int), .bool m] w fun e w' => e = .returned (.tuple #[.int .u32 ((chk (sg a + sgn m b)).getD 0 : Int), .bool (chk (sg a + sgn m b)).isSome]) ∧ w' = w := by
  have w1 := sg_wrap a ha
  have w2 := sg_wrap b hb
  have l1 := sg_lo a ha
  have l2 := sg_lo b hb
  unfold sgn
  generalize sg a = p at w1 l1 ⊢
  generalize sg b = q at w2 l2 ⊢
  have v1 : wrap64 p = p := by unfold wrap64; omega
  have v2 : wrap64 q = q := by unfold wrap64; omega
  have v3 : wrap64 (-q) = -q := by unfold wrap64; omega
  obtain ⟨y, hy⟩ : ∃ y, y = (if m then -q else q) := ⟨_, rfl⟩
  rw [← hy]
  have v4 : wrap64 (p + y) = p + y := by
    rw [hy]; unfold wrap64; split <;> omega
  by_cases hc : -2147483648 ≤ p + y ∧ p + y ≤ 2147483647
  · have hr : Hid (chk (p + y) = some (outN (p + y))) := by show _ = _; rw [chk, if_pos hc]
    have ho : Hid ((p + y) % 4294967296 = ((outN (p + y) : Nat) : Int)) := (outN_is _).symm
    obtain ⟨c1, c2⟩ := hc
    have c3 : ¬ (p + y < -2147483648) := by omega
    have c4 : ¬ (2147483647 < p + y) := by omega
    cases m with
    | false =>
      obtain rfl : y = q := hy
      clear l1 l2 ha hb c1 c2
      go_enter Tryd.func22, Tryd.ntmps22
      go_wp2
      go_ret2
      exact ⟨by rw [hr.out]; simp only [Option.getD_some, Option.isSome_some]; rw [← ho.out]; first | rfl | simp, rfl⟩
    | true =>
      obtain rfl : y = -q := hy
      clear l1 l2 ha hb c1 c2
      go_enter Tryd.func22, Tryd.ntmps22
      go_wp2
      go_ret2
      exact ⟨by rw [hr.out]; simp only [Option.getD_some, Option.isSome_some]; rw [← ho.out]; first | rfl | simp, rfl⟩
  · have hr : Hid (chk (p + y) = none) := by show _ = _; rw [chk, if_neg hc]
    by_cases c1 : p + y < -2147483648
    · cases m with
      | false =>
        obtain rfl : y = q := hy
        clear l1 l2 ha hb hc
        go_enter Tryd.func22, Tryd.ntmps22
        go_wp2
        go_ret2
        exact ⟨by rw [hr.out]; rfl, rfl⟩
      | true =>
        obtain rfl : y = -q := hy
        clear l1 l2 ha hb hc
        go_enter Tryd.func22, Tryd.ntmps22
        go_wp2
        go_ret2
        exact ⟨by rw [hr.out]; rfl, rfl⟩
    · have c2 : 2147483647 < p + y := by omega
      cases m with
      | false =>
        obtain rfl : y = q := hy
        clear l1 l2 ha hb hc
        go_enter Tryd.func22, Tryd.ntmps22
        go_wp2
        go_ret2
        exact ⟨by rw [hr.out]; rfl, rfl⟩
      | true =>
        obtain rfl : y = -q := hy
        clear l1 l2 ha hb hc
        go_enter Tryd.func22, Tryd.ntmps22
        go_wp2
        go_ret2
        exact ⟨by rw [hr.out]; rfl, rfl⟩
theorem wrap_div32 (p : Int) (n : Nat) (h1 : -2147483648 ≤ p) (h2 : p < 2147483648) : wrap32 (p / 2 ^ n) = p / 2 ^ n := by
  have hp : (0 : Int) < 2 ^ n := Int.pow_pos (by decide)
  have hp1 : (1 : Int) ≤ 2 ^ n := hp
  have a : -2147483648 ≤ p / 2 ^ n := by
    rw [Int.le_ediv_iff_mul_le hp]
    generalize (2 : Int) ^ n = z at hp1
    omega
  have b : p / 2 ^ n ≤ 2147483647 := by
    by_cases h : 0 ≤ p
    · exact Int.le_trans (Int.ediv_le_self _ h) (by omega)
    · have h3 : p / 2 ^ n < 0 := Int.ediv_neg_of_neg_of_pos (by omega) hp
      omega
  unfold wrap32; omega
theorem right38 (v n : Nat) (hv : v < 4294967296) (hn : n < 32) (w : World) : Calls Tryd.prog 38 #[.int .u32 (v : Int), .int .u64 (n : Int)] w fun e w' => e = .returned (.int .u32 (outN (sg v / 2 ^ n) : Int)) ∧ w' = w := by
  have w1 := sg_wrap v hv
  have l1 := sg_lo v hv
  have w2 := wrap_div32 (sg v) n l1.1 l1.2
  have hm : min n 64 = n := by omega
  have hm2 : min n 32 = n := by omega
  have ho : Hid ((sg v / 2 ^ n) % 4294967296 = ((outN (sg v / 2 ^ n) : Nat) : Int)) := (outN_is _).symm
  generalize sg v = p at w1 w2 ho ⊢
  clear l1
  go_enter Tryd.func38, Tryd.ntmps38
  go_wp2
  go_ret
  exact ⟨ret_u32 ho.out, rfl⟩
theorem mask90 (n : Nat) (hn : n ≤ 32) (w : World) : Calls Tryd.prog 90 #[.int .i64 (n : Int)] w fun e w' => e = .returned (.int .u32 (lowN n : Int)) ∧ w' = w := by
  by_cases h : n = 32
  · subst h
    go_enter Tryd.func90, Tryd.ntmps90
    go_wp2
    go_ret
    exact ⟨rfl, rfl⟩
  · have h1 : ¬ 32 ≤ (n : Int) := by omega
    have hn' : n < 32 := by omega
    have hm : min n 64 = n := by omega
    have hw : IntKind.u64.wrap (n : Int) = (n : Int) := by rw [IntKind.wrap_u64]; omega
    have hk : Hid ((((2 : Int) ^ n) % 4294967296 - 1) % 4294967296 = ((lowN n : Nat) : Int)) := by
      have h : ∀ n, n < 32 → (((2 : Int) ^ n) % 4294967296 - 1) % 4294967296 = ((lowN n : Nat) : Int) := by decide
      exact h n hn'
    have hk2 : Hid (((2 : Int) ^ n - 1) % 4294967296 = ((lowN n : Nat) : Int)) := by
      have h : ∀ n, n < 32 → (((2 : Int) ^ n) - 1) % 4294967296 = ((lowN n : Nat) : Int) := by decide
      exact h n hn'
    go_enter Tryd.func90, Tryd.ntmps90
    go_wp2
    go_ret
    first | exact ⟨ret_u32 hk.out, rfl⟩ | exact ⟨ret_u32 hk2.out, rfl⟩
set_option maxHeartbeats 1000000 in
theorem lead91 (v k : Nat) (hv : v < 4294967296) (hk : k < 4294967296) (w : World) : Calls Tryd.prog 91 #[.int .u32 (v : Int), .int .u32 (k : Int)] w fun e w' => e = .returned (.int .u32 (leadN v k : Int)) ∧ w' = w := by
  have HC : Hid (∀ n : Nat, n < 32 → (31 - (n : Int)) % 4294967296 = ((31 - n : Nat) : Int) ∧ ∃ a : Nat, bits .and .u32 ((v : Int) / 2 ^ (31 - n)) 1 = (a : Int) ∧ ((a : Int) == (k : Int)) = topB v k n ∧ min (31 - n) 64 = 31 - n) := fun n hn => ⟨by omega, v / 2 ^ (31 - n) % 2, and_one v (31 - n) hv, by unfold topB; exact eq_cast _ _, by omega⟩
  obtain ⟨z, hz⟩ : ∃ z, z = leadN v k := ⟨_, rfl⟩
  rw [← hz]
  have HZ : Hid (z = leadF v k 32 0) := hz
  clear hz hv hk
  go_enter Tryd.func91, Tryd.ntmps91
  go_wp2
  go_loopw [5] (fun i wr => ∃ m : Nat, m ≤ 32 ∧ i = .int .u32 (m : Int) ∧ wr = w ∧ z = leadF v k (32 - m) m) (fun i _ => 32 - (intOf i).toNat)
  case atStart => exact ⟨0, by decide, rfl, rfl, HZ.out⟩
  case round =>
    obtain ⟨m, hm, rfl, rfl, hle⟩ := hrel
    have HL : Hid (z = leadF v k (32 - m) m) := hle
    clear hle
    by_cases hml : m < 32
    · obtain ⟨h1, a, h2, h3, h4⟩ := HC.out m hml
      have HT : Hid (topB v k m = true → z = leadF v k (32 - (m + 1)) (m + 1)) := fun h => by
        show _ = _
        rw [HL.out, show 32 - m = (32 - (m + 1)) + 1 from by omega]
        conv => lhs; unfold leadF
        rw [if_pos h]
      have HF : Hid (topB v k m = false → z = m) := fun h => by
        show _ = _
        rw [HL.out, show 32 - m = (32 - (m + 1)) + 1 from by omega]
        unfold leadF
        rw [h]; rfl
      generalize topB v k m = tb at h3 HT HF
      clear h1 h4
      have hmI : (m : Int) < 32 := by omega
      have hd : decide ((m : Int) < 32) = true := decide_eq_true hmI
      have hmw : ((m : Int) + 1) % 4294967296 = (m : Int) + 1 := by omega
      cases tb with
      | true =>
        have HTT : Hid (z = leadF v k (32 - (m + 1)) (m + 1)) := HT.out rfl
        go_wp2
        go_roundw
        case rel => exact ⟨m + 1, by omega, by go_num, by first | trivial | rfl, HTT.out⟩
        case measure => simp [intOf]; omega
      | false =>
        have HFF : Hid (z = m) := HF.out rfl
        go_wp2
        go_ret
        exact ⟨by rw [HFF.out]; rfl, rfl⟩
    · have he : m = 32 := by omega
      subst he
      have HFF : Hid (z = 32) := by show _ = _; rw [HL.out]; rfl
      go_wp2
      go_ret
      exact ⟨by rw [HFF.out]; rfl, rfl⟩
set_option maxHeartbeats 1000000 in
theorem t13_tge (s t : Nat) (hs : s < 4294967296) (ht : t < 4294967296) (w : World) : Calls Tryd.prog 13 #[.string ⟨#[116, 103, 101]⟩, .int .u32 (s : Int), .int .u32 (t : Int)] w fun e w' => e = .returned (.bool (trapB ⟨#[116, 103, 101]⟩ s t)) ∧ w' = w := by
  rw [trap_tge]
  have K1 := less24 s t hs ht w
  have hn : decide (sg t ≤ sg s) = !(decide (sg s < sg t)) := by rw [← decide_not]; congr 1; apply propext; omega
  rw [hn]
  generalize decide (sg s < sg t) = b at K1 ⊢
  clear hn
  go_enter Tryd.func13, Tryd.ntmps13
  go_wp2_with fail
  refine K1.mono ?_
  rintro e w1 ⟨rfl, rfl⟩
  go_wp2
  go_ret
  exact ⟨rfl, rfl⟩
set_option maxHeartbeats 1000000 in
theorem t13_tgeu (s t : Nat) (hs : s < 4294967296) (ht : t < 4294967296) (w : World) : Calls Tryd.prog 13 #[.string ⟨#[116, 103, 101, 117]⟩, .int .u32 (s : Int), .int .u32 (t : Int)] w fun e w' => e = .returned (.bool (trapB ⟨#[116, 103, 101, 117]⟩ s t)) ∧ w' = w := by
  rw [trap_tgeu]
  have hd : decide ((t : Int) ≤ (s : Int)) = decide (t ≤ s) := by simp
  generalize decide (t ≤ s) = b at hd ⊢
  go_enter Tryd.func13, Tryd.ntmps13
  go_wp2
  go_ret
  exact ⟨by first | rfl | (rw [← hd]; rfl) | (simp [← hd]), rfl⟩
set_option maxHeartbeats 1000000 in
theorem t13_tlt (s t : Nat) (hs : s < 4294967296) (ht : t < 4294967296) (w : World) : Calls Tryd.prog 13 #[.string ⟨#[116, 108, 116]⟩, .int .u32 (s : Int), .int .u32 (t : Int)] w fun e w' => e = .returned (.bool (trapB ⟨#[116, 108, 116]⟩ s t)) ∧ w' = w := by
  rw [trap_tlt]
  have K1 := less24 s t hs ht w
  generalize decide (sg s < sg t) = b at K1 ⊢
  go_enter Tryd.func13, Tryd.ntmps13
  go_wp2_with fail
  refine K1.mono ?_
  rintro e w1 ⟨rfl, rfl⟩
  go_wp2
  go_ret
  exact ⟨rfl, rfl⟩
set_option maxHeartbeats 1000000 in
theorem t13_tltu (s t : Nat) (hs : s < 4294967296) (ht : t < 4294967296) (w : World) : Calls Tryd.prog 13 #[.string ⟨#[116, 108, 116, 117]⟩, .int .u32 (s : Int), .int .u32 (t : Int)] w fun e w' => e = .returned (.bool (trapB ⟨#[116, 108, 116, 117]⟩ s t)) ∧ w' = w := by
  rw [trap_tltu]
  have hd : decide ((s : Int) < (t : Int)) = decide (s < t) := by simp
  generalize decide (s < t) = b at hd ⊢
  go_enter Tryd.func13, Tryd.ntmps13
  go_wp2
  go_ret
  exact ⟨by first | rfl | (rw [← hd]; rfl) | (simp [← hd]), rfl⟩
set_option maxHeartbeats 1000000 in
theorem t13_teq (s t : Nat) (hs : s < 4294967296) (ht : t < 4294967296) (w : World) : Calls Tryd.prog 13 #[.string ⟨#[116, 101, 113]⟩, .int .u32 (s : Int), .int .u32 (t : Int)] w fun e w' => e = .returned (.bool (trapB ⟨#[116, 101, 113]⟩ s t)) ∧ w' = w := by
  rw [trap_teq]
  have hd : ((s : Int) == (t : Int)) = (s == t) := eq_cast s t
  generalize (s == t) = b at hd ⊢
  go_enter Tryd.func13, Tryd.ntmps13
  go_wp2
  go_ret
  exact ⟨by first | rfl | (rw [← hd]; rfl) | (simp [← hd]), rfl⟩
set_option maxHeartbeats 1000000 in
theorem t13_tne (s t : Nat) (hs : s < 4294967296) (ht : t < 4294967296) (w : World) : Calls Tryd.prog 13 #[.string ⟨#[116, 110, 101]⟩, .int .u32 (s : Int), .int .u32 (t : Int)] w fun e w' => e = .returned (.bool (trapB ⟨#[116, 110, 101]⟩ s t)) ∧ w' = w := by
  rw [trap_tne]
  have hd : ((s : Int) == (t : Int)) = (s == t) := eq_cast s t
  have hd2 : (s != t) = !(s == t) := rfl
  rw [hd2]
  generalize (s == t) = b at hd ⊢
  go_enter Tryd.func13, Tryd.ntmps13
  go_wp2
  go_ret
  exact ⟨by first | rfl | (rw [← hd]; rfl) | (simp [← hd]), rfl⟩
set_option maxHeartbeats 1000000 in
theorem traps13 (n : ByteArray) (s t : Nat) (hs : s < 4294967296) (ht : t < 4294967296) (w : World) : Calls Tryd.prog 13 #[.string n, .int .u32 (s : Int), .int .u32 (t : Int)] w fun e w' => e = .returned (.bool (trapB n s t)) ∧ w' = w := by
  by_cases h_tge : n = ⟨#[116, 103, 101]⟩
  · subst h_tge; exact t13_tge s t hs ht w
  by_cases h_tgeu : n = ⟨#[116, 103, 101, 117]⟩
  · subst h_tgeu; exact t13_tgeu s t hs ht w
  by_cases h_tlt : n = ⟨#[116, 108, 116]⟩
  · subst h_tlt; exact t13_tlt s t hs ht w
  by_cases h_tltu : n = ⟨#[116, 108, 116, 117]⟩
  · subst h_tltu; exact t13_tltu s t hs ht w
  by_cases h_teq : n = ⟨#[116, 101, 113]⟩
  · subst h_teq; exact t13_teq s t hs ht w
  by_cases h_tne : n = ⟨#[116, 110, 101]⟩
  · subst h_tne; exact t13_tne s t hs ht w
  have e_tge := ne_lit h_tge (show (⟨#[116, 103, 101]⟩ : ByteArray).toList = [116, 103, 101] by decide +kernel)
  have e_tgeu := ne_lit h_tgeu (show (⟨#[116, 103, 101, 117]⟩ : ByteArray).toList = [116, 103, 101, 117] by decide +kernel)
  have e_tlt := ne_lit h_tlt (show (⟨#[116, 108, 116]⟩ : ByteArray).toList = [116, 108, 116] by decide +kernel)
  have e_tltu := ne_lit h_tltu (show (⟨#[116, 108, 116, 117]⟩ : ByteArray).toList = [116, 108, 116, 117] by decide +kernel)
  have e_teq := ne_lit h_teq (show (⟨#[116, 101, 113]⟩ : ByteArray).toList = [116, 101, 113] by decide +kernel)
  have e_tne := ne_lit h_tne (show (⟨#[116, 110, 101]⟩ : ByteArray).toList = [116, 110, 101] by decide +kernel)
  have HF : Hid (trapB n s t = false) := by show _ = _; rw [trapB, e_tge, e_tgeu, e_tlt, e_tltu, e_teq, e_tne]; rfl
  clear h_tge h_tgeu h_tlt h_tltu h_teq h_tne
  go_enter Tryd.func13, Tryd.ntmps13
  go_wp2
  go_ret
  exact ⟨by rw [HF.out]; rfl, rfl⟩
end Go.Proofs.YtogokbefpgaciaaDoor
