/- What is proved here: a name's number: the program's Hash and the document's. -/
import Derived.Test.YtmkfgoacbehhcaaNa
import Derived.Test.YtmkfgoacbehhcaaBase
import Derived.LoopTactic
import Derived.LoopN
import Derived.BigQuiet
namespace Go.Proofs.Ytmkfgoacbehhcaa
open Go.RowKit
set_option linter.unusedVariables false
set_option linter.unusedSimpArgs false
set_option maxRecDepth 100000
theorem bt_len (p : ByteArray) : p.toList.length = p.size := by rw [ByteArray.toList_eq]; rfl
theorem bal (l : L8) : (⟨l.toArray⟩ : ByteArray).toList = l := by rw [ByteArray.toList_eq]
theorem ext_list (p : ByteArray) (f k : Nat) : p.extract f k = ⟨((p.toList.take k).drop f).toArray⟩ := by
  rw [ByteArray.toList_eq]
  have h : (p.extract f k).data = p.data.extract f k := ByteArray.data_extract
  have e : (p.data.extract f k).toList = (p.data.toList.take k).drop f := by
    rw [Array.toList_extract, List.extract_eq_drop_take']
  have : p.extract f k = ⟨(p.extract f k).data⟩ := rfl
  rw [this, h, ← e]
theorem ba_app (a b : L8) : (⟨a.toArray⟩ : ByteArray) ++ ⟨b.toArray⟩ = ⟨(a ++ b).toArray⟩ := by
  apply ByteArray.ext
  simp
theorem bt_get (p : ByteArray) (i : Nat) (h : i < p.size) (h' : i < p.toList.length) : p[i] = p.toList[i] := by
  have : ∀ l : L8, l = p.toList → ∀ h2 : i < l.length, p[i] = l[i] := by
    intro l hl h2
    have e : p.toList = p.data.toList := ByteArray.toList_eq p
    rw [e] at hl
    subst hl
    simp
    rfl
  exact this _ rfl h'
theorem xor_u32 (a b : Nat) (ha : a < 4294967296) (hb : b < 4294967296) : bits BinOp.xor IntKind.u32 (a : Int) (b : Int) = ((a ^^^ b : Nat) : Int) := by
  have h : a ^^^ b < 4294967296 := Nat.xor_lt_two_pow (n := 32) ha hb
  show IntKind.u32.wrap (((BitVec.ofInt 32 (a : Int) ^^^ BitVec.ofInt 32 (b : Int)).toNat : Nat) : Int) = _
  rw [BitVec.toNat_xor, BitVec.toNat_ofInt, BitVec.toNat_ofInt, IntKind.wrap_u32]
  have ea : ((a : Int) % ((2 ^ 32 : Nat) : Int)).toNat = a := by omega
  have eb : ((b : Int) % ((2 ^ 32 : Nat) : Int)).toNat = b := by omega
  rw [ea, eb]
  omega
theorem andNot_u32 (a b : Nat) (ha : a < 4294967296) (hb : b < 4294967296) : bits BinOp.andNot IntKind.u32 (a : Int) (b : Int) = ((a &&& (4294967295 - b) : Nat) : Int) := by
  have hx : a &&& (4294967295 - b) < 2 ^ 32 := Nat.and_lt_two_pow _ (by omega)
  show IntKind.u32.wrap ((BitVec.ofInt 32 (a : Int) &&& ~~~BitVec.ofInt 32 (b : Int)).toNat : Int) = _
  have ea : ((a : Int) % ((2 ^ 32 : Nat) : Int)).toNat = a := by omega
  have eb : ((b : Int) % ((2 ^ 32 : Nat) : Int)).toNat = b := by omega
  rw [BitVec.toNat_and, BitVec.toNat_not, BitVec.toNat_ofInt, BitVec.toNat_ofInt, ea, eb, IntKind.wrap_u32]
  have e : 2 ^ 32 - 1 - b = 4294967295 - b := by omega
  rw [e]
  omega
/-- The highest four bits of a number of 32. -/
theorem high4 (t : Nat) (ht : t < 4294967296) : t &&& 4026531840 = t / 268435456 * 268435456 := by
  apply Nat.eq_of_testBit_eq
  intro i
  rw [Nat.testBit_and, show (268435456 : Nat) = 2 ^ 28 from rfl, Nat.testBit_mul_two_pow, Nat.testBit_div_two_pow]
  by_cases h : 28 ≤ i
  · rw [decide_eq_true h, Bool.true_and, show i - 28 + 28 = i by omega]
    by_cases h2 : i < 32
    · have : (4026531840 : Nat).testBit i = true := by
        have : i = 28 ∨ i = 29 ∨ i = 30 ∨ i = 31 := by omega
        rcases this with rfl | rfl | rfl | rfl <;> decide
      rw [this, Bool.and_true]
    · have : t.testBit i = false := Nat.testBit_lt_two_pow (Nat.lt_of_lt_of_le ht (by
        have := Nat.pow_le_pow_right (show 0 < 2 by decide) (show 32 ≤ i by omega)
        simpa using this))
      rw [this, Bool.false_and]
  · rw [decide_eq_false h, Bool.false_and]
    have : (4026531840 : Nat).testBit i = false := by
      have key : ∀ j, j < 28 → (4026531840 : Nat).testBit j = false := by decide
      exact key i (by omega)
    rw [this, Bool.and_false]
theorem low28 (x q : Nat) (hx : x < 4294967296) (hq : q < 16) (h : x / 268435456 = q) : x &&& (4294967295 - q * 268435456) = x % 268435456 := by
  apply Nat.eq_of_testBit_eq
  intro i
  rw [Nat.testBit_and, show (268435456 : Nat) = 2 ^ 28 from rfl, Nat.testBit_mod_two_pow, show 4294967295 - q * 2 ^ 28 = 2 ^ 32 - (q * 2 ^ 28 + 1) by omega, Nat.testBit_two_pow_sub_succ (by omega), Nat.testBit_mul_two_pow]
  by_cases h1 : i < 28
  · rw [decide_eq_true h1, decide_eq_true (show i < 32 by omega), decide_eq_false (show ¬ 28 ≤ i by omega)]
    simp
  · rw [decide_eq_false h1, decide_eq_true (show 28 ≤ i by omega)]
    have e : x.testBit i = q.testBit (i - 28) := by
      rw [← h, show (268435456 : Nat) = 2 ^ 28 from rfl, Nat.testBit_div_two_pow, show i - 28 + 28 = i by omega]
    rw [e]
    cases q.testBit (i - 28) <;> simp
theorem xor_top (t q : Nat) (hq : q < 256) : (t ^^^ q) / 268435456 = t / 268435456 := by
  apply Nat.eq_of_testBit_eq
  intro i
  rw [show (268435456 : Nat) = 2 ^ 28 from rfl, Nat.testBit_div_two_pow, Nat.testBit_div_two_pow, Nat.testBit_xor]
  have : q.testBit (i + 28) = false := Nat.testBit_lt_two_pow (Nat.lt_of_lt_of_le hq (by
    have := Nat.pow_le_pow_right (show 0 < 2 by decide) (show 8 ≤ i + 28 by omega)
    simpa using this))
  rw [this, Bool.xor_false]
/-- What a round of Hash makes. -/
theorem hround (h c : Nat) (hh : h < 268435456) (hc : c < 256) : ∃ T G R X H : Nat, ((h : Int) * 16 + (c : Int)) % 4294967296 = (T : Int) ∧ T < 4294967296 ∧ bits .and .u32 (T : Int) 4026531840 = (G : Int) ∧ G < 4294967296 ∧ (G : Int) / 16777216 = (R : Int) ∧ R < 256 ∧
    bits .xor .u32 (T : Int) (R : Int) = (X : Int) ∧ X < 4294967296 ∧ bits .andNot .u32 (X : Int) (G : Int) = (H : Int) ∧ H = hstep h c ∧ H < 268435456 := by
  obtain ⟨T, hT⟩ : ∃ T, T = (16 * h + c) % 4294967296 := ⟨_, rfl⟩
  have hT2 : T < 4294967296 := by omega
  have hq : T / 268435456 < 16 := by omega
  obtain ⟨q, hqq⟩ : ∃ q, q = T / 268435456 := ⟨_, rfl⟩
  rw [← hqq] at hq
  have hG : q * 268435456 < 4294967296 := by omega
  have hX : T ^^^ (q * 16) < 4294967296 := Nat.xor_lt_two_pow (n := 32) hT2 (by omega)
  have hXt : (T ^^^ (q * 16)) / 268435456 = q := by rw [xor_top _ _ (by omega), hqq]
  refine ⟨T, q * 268435456, q * 16, T ^^^ (q * 16), hstep h c, by omega, hT2, ?_, hG, by omega, by omega, ?_, hX, ?_, rfl, hstep_lt _ _⟩
  · have := u32_and_nat T 4026531840 hT2 (by decide)
    rw [high4 T hT2, ← hqq] at this
    exact this
  · exact xor_u32 T _ hT2 (by omega)
  · rw [andNot_u32 _ _ hX hG, low28 _ q hX hq hXt]
    unfold hstep
    rw [← hT, ← hqq]
set_option maxHeartbeats 1000000 in
theorem hash14 (s : ByteArray) (hs : s.size ≤ 1000000) (w : World) : Calls Try.prog 14 #[.string s] w fun e w' => e = .returned (.int .u32 (hashL s.toList : Int)) ∧ w' = w := by
  have hlen := bt_len s
  have HL : Hid (s.toList.length = s.size) := hlen
  have HF : Hid (hashL (s.toList.take s.size) = hashL s.toList) := by rw [Hid, ← hlen, List.take_length]
  clear hlen
  go_enter Try.func14, Try.ntmps14
  go_wp2
  go_loop [3, 8] (fun v i => ∃ k : Nat, k ≤ s.size ∧ i = .int .i64 k ∧ v = .int .u32 ((hashL (s.toList.take k) : Nat) : Int)) (fun _ i => s.size - (intOf i).toNat)
  case atStart => exact ⟨0, Nat.zero_le _, rfl, rfl⟩
  case round =>
    obtain ⟨k, hk, rfl, rfl⟩ := hrel
    by_cases hlt : k < s.size
    · obtain ⟨c, hc⟩ : ∃ c : Nat, c = (s[k]).toNat := ⟨_, rfl⟩
      have hc2 : c < 256 := by rw [hc]; exact (s[k]).toNat_lt
      have hhl := hashL_lt (s.toList.take k)
      have HN : Hid (hashL (s.toList.take (k + 1)) = hstep (hashL (s.toList.take k)) c) := by
        have hk2 : k < s.toList.length := by rw [HL.out]; exact hlt
        rw [Hid, List.take_succ_eq_append_getElem hk2, hashL_snoc, hc, bt_get s k hlt hk2]
      have hcs : (s[k]).toNat = c := hc.symm
      clear hc
      obtain ⟨h, hh⟩ : ∃ h, h = hashL (s.toList.take k) := ⟨_, rfl⟩
      rw [← hh] at hhl HN ⊢
      clear hh
      obtain ⟨T, G, R, X, H, eT, bT, eG, bG, eR, bR, eX, bX, eH, eH2, bH⟩ := hround h c hhl hc2
      have hhi : (h : Int) < 268435456 := by omega
      have hci : (c : Int) < 256 := by omega
      have HE : Hid (H = hstep h c) := eH2
      clear eH2
      go_wp2
      go_round
      case rel => exact ⟨k + 1, by omega, by go_num, by rw [HN.out, ← HE.out]⟩
      case measure => simp [intOf]; omega
    · obtain rfl : k = s.size := by omega
      go_wp2
      go_ret
      exact ⟨by rw [← HF.out]; rfl, rfl⟩
end Go.Proofs.Ytmkfgoacbehhcaa
