/- What is proved here: tables of symbols in plain words: a name's number, what can be, what is written, what is read, what is found. -/
import Derived.Test.YtgdflobcbhnimaaGreatWBack
import Derived.Test.YtgdflobcbhnimaaGreatBase
import Derived.LoopTactic
import Derived.LoopN
import Derived.BigQuiet
namespace Go.Proofs.YtgdflobcbhnimaaGreat
open Go.RowKit
set_option linter.unusedVariables false
set_option linter.unusedSimpArgs false
set_option maxRecDepth 100000
abbrev L8 := List UInt8
/-- n bytes of a number, the highest first. -/
def bN (n v : Nat) : L8 := (W.leB v n).reverse
theorem bN_len (n v : Nat) : (bN n v).length = n := by unfold bN; rw [List.length_reverse, W.leB_length]
def hf (l : L8) (k : Nat) : Nat := W.beL ((l.drop k).take 2)
/-- A symbol. -/
structure Sy where
  name : L8
  value : Nat
  size : Nat
  bind : Int
  part : Int
structure Sy.Bd (s : Sy) : Prop where
  v : s.value < 4294967296
  z : s.size < 4294967296
  b0 : -9223372036854775808 ≤ s.bind
  b1 : s.bind ≤ 9223372036854775807
  p0 : -9223372036854775808 ≤ s.part
  p1 : s.part ≤ 9223372036854775807
theorem Sy.ext' {a b : Sy} (h1 : a.name = b.name) (h2 : a.value = b.value) (h3 : a.size = b.size) (h4 : a.bind = b.bind) (h5 : a.part = b.part) : a = b := by
  cases a; cases b; simp_all
/-- A name's number, a byte further. -/
def hstep (h c : Nat) : Nat := (((16 * h + c) % 4294967296) ^^^ ((16 * h + c) % 4294967296 / 268435456 * 16)) % 268435456
def hashL (l : L8) : Nat := l.foldl (fun h c => hstep h c.toNat) 0
theorem hstep_lt (h c : Nat) : hstep h c < 268435456 := Nat.mod_lt _ (by decide)
theorem hashL_snoc (l : L8) (c : UInt8) : hashL (l ++ [c]) = hstep (hashL l) c.toNat := by unfold hashL; rw [List.foldl_append]; rfl
theorem hashL_lt (l : L8) : hashL l < 268435456 := by
  rcases List.eq_nil_or_concat l with rfl | ⟨m, c, rfl⟩
  · decide
  · rw [List.concat_eq_append, hashL_snoc]; exact hstep_lt _ _
/-- A symbol that can be. -/
def FitY (s : Sy) : Prop := 1 ≤ s.name.length ∧ s.name.length ≤ 31 ∧ 0 ∉ s.name ∧ 0 ≤ s.bind ∧ s.bind ≤ 2 ∧ 0 ≤ s.part ∧ s.part ≤ 2
instance (s : Sy) : Decidable (FitY s) := by unfold FitY; exact inferInstance
def fitY (s : Sy) : Bool := decide (FitY s)
def fitL (l : List Sy) : Bool := decide (l.length ≤ 200) && l.all fitY
theorem fitL_parts {l : List Sy} (h : fitL l = true) : l.length ≤ 200 ∧ ∀ s ∈ l, FitY s := by
  unfold fitL at h
  rw [Bool.and_eq_true, decide_eq_true_eq, List.all_eq_true] at h
  exact ⟨h.1, fun g hg => of_decide_eq_true (h.2 g hg)⟩
/-- A symbol's row, its name standing at a place. -/
def rowB (s : Sy) (o : Nat) : L8 := bN 4 o ++ (bN 4 s.value ++ (bN 4 s.size ++ (bN 1 (s.bind.toNat * 16) ++ (bN 1 0 ++ bN 2 s.part.toNat))))
theorem rowB_len (s : Sy) (o : Nat) : (rowB s o).length = 16 := by unfold rowB; simp only [List.length_append, bN_len]
def nmB (s : Sy) : L8 := s.name ++ [0]
def strsL (l : List Sy) : L8 := 0 :: l.flatMap nmB
def rowsG : Nat → List Sy → L8
  | _, [] => []
  | o, s :: t => rowB s o ++ rowsG (o + (s.name.length + 1)) t
theorem rowsG_snoc (l : List Sy) : ∀ (o : Nat) (s : Sy), rowsG o (l ++ [s]) = rowsG o l ++ rowB s (o + (l.flatMap nmB).length) := by
  induction l with
  | nil => intro o s; simp [rowsG]
  | cons a t ih =>
    intro o s
    rw [List.cons_append, rowsG, ih, rowsG, List.append_assoc]
    have : o + (a.name.length + 1) + (t.flatMap nmB).length = o + ((a :: t).flatMap nmB).length := by simp [nmB]; omega
    rw [this]
theorem rowsG_len (l : List Sy) : ∀ o, (rowsG o l).length = 16 * l.length := by
  induction l with
  | nil => intro o; rfl
  | cons a t ih => intro o; rw [rowsG, List.length_append, rowB_len, ih, List.length_cons]; omega
def zero16 : L8 := [0, 0, 0, 0, 0, 0, 0, 0, 0, 0, 0, 0, 0, 0, 0, 0]
def symsL (l : List Sy) : L8 := zero16 ++ rowsG 1 l
theorem strs_snoc (l : List Sy) (s : Sy) : strsL (l ++ [s]) = strsL l ++ nmB s := by unfold strsL; simp
theorem strs_len (l : List Sy) : (strsL l).length = 1 + (l.flatMap nmB).length := by unfold strsL; simp; omega
theorem syms_snoc (l : List Sy) (s : Sy) : symsL (l ++ [s]) = symsL l ++ rowB s (strsL l).length := by unfold symsL; rw [rowsG_snoc, strs_len, List.append_assoc]
theorem syms_len (l : List Sy) : (symsL l).length = 16 * (l.length + 1) := by unfold symsL; rw [List.length_append, rowsG_len]; show 16 + _ = _; omega
theorem nms_le (l : List Sy) (h : ∀ s ∈ l, FitY s) : (l.flatMap nmB).length ≤ 32 * l.length := by
  induction l with
  | nil => simp
  | cons a t ih =>
    have h1 := (h a (by simp)).2.1
    have h2 := ih (fun s hs => h s (by simp [hs]))
    simp only [List.flatMap_cons, List.length_append, List.length_cons, nmB, List.length_nil] at h2 ⊢
    omega
/-- The next one of a way, behind a place. -/
def nxtF (f : Nat → Nat) (w : Nat) : Nat → Nat → Nat
  | 0, _ => 0
  | k + 1, n => if f n = w then n else nxtF f w k (n + 1)
def nxt (f : Nat → Nat) (len w a : Nat) : Nat := nxtF f w (len - a) (a + 1)
theorem nxt_end (f : Nat → Nat) (len w : Nat) : nxt f len w len = 0 := by unfold nxt; rw [Nat.sub_self]; rfl
theorem nxt_step (f : Nat → Nat) (len w a : Nat) (h : a < len) : nxt f len w a = if f (a + 1) = w then a + 1 else nxt f len w (a + 1) := by
  unfold nxt
  obtain ⟨k, hk⟩ : ∃ k, len - a = k + 1 := ⟨len - a - 1, by omega⟩
  rw [hk, show len - (a + 1) = k by omega]
  rfl
theorem nxtF_le (f : Nat → Nat) (w : Nat) : ∀ k n, nxtF f w k n < n + k ∨ nxtF f w k n = 0
  | 0, n => Or.inr rfl
  | k + 1, n => by
    rw [nxtF]
    split
    · left; omega
    · rcases nxtF_le f w k (n + 1) with h | h
      · left; omega
      · right; exact h
theorem nxt_le (f : Nat → Nat) (len w a : Nat) (ha : a ≤ len) : nxt f len w a ≤ len := by
  have := nxtF_le f w (len - a) (a + 1)
  unfold nxt
  omega
/-- A symbol's way; symbols are counted from 1 on. -/
def wayN (l : List Sy) (ways n : Nat) : Nat := hashL ((l[n - 1]?.getD ⟨[], 0, 0, 0, 0⟩).name) % ways
theorem way_at (l : List Sy) (ways k : Nat) (h : k < l.length) : wayN l ways (k + 1) = hashL (l[k].name) % ways := by
  unfold wayN
  rw [Nat.add_sub_cancel, List.getElem?_eq_getElem h]; rfl
def firstL (l : List Sy) (ways a : Nat) : List Nat := (List.range ways).map fun w => nxt (wayN l ways) l.length w a
def nextL (l : List Sy) (ways a : Nat) : List Nat := (List.range (l.length + 1)).map fun n => if a < n then nxt (wayN l ways) l.length (wayN l ways n) n else 0
def numsAt (l : List Sy) (ways a : Nat) : List Nat := [ways, l.length + 1] ++ (firstL l ways a ++ nextL l ways a)
theorem first_len (l : List Sy) (ways a : Nat) : (firstL l ways a).length = ways := by unfold firstL; simp
theorem next_len (l : List Sy) (ways a : Nat) : (nextL l ways a).length = l.length + 1 := by unfold nextL; simp
theorem nums_len (l : List Sy) (ways a : Nat) : (numsAt l ways a).length = 2 + ways + (l.length + 1) := by unfold numsAt; simp only [List.length_append, first_len, next_len]; show 2 + _ = _; omega
theorem first_end (l : List Sy) (ways : Nat) : firstL l ways l.length = List.replicate ways 0 := by
  unfold firstL
  apply List.ext_getElem
  · simp
  · intro i h1 h2
    simp [nxt_end]
theorem next_end (l : List Sy) (ways : Nat) : nextL l ways l.length = List.replicate (l.length + 1) 0 := by
  unfold nextL
  apply List.ext_getElem
  · simp
  · intro i h1 h2
    simp at h1
    simp
    omega
/-- One symbol more: n = a + 1. -/
theorem next_step (l : List Sy) (ways a : Nat) (h : a < l.length) (hw0 : 0 < ways) : nextL l ways a = (nextL l ways (a + 1)).set (a + 1) ((firstL l ways (a + 1)).getD (wayN l ways (a + 1)) 0) := by
  apply List.ext_getElem
  · simp [next_len]
  · intro i h1 h2
    rw [next_len] at h1
    rw [List.getElem_set]
    simp only [nextL, List.getElem_map, List.getElem_range]
    by_cases e : a + 1 = i
    · subst e
      rw [if_pos (by omega), if_pos rfl]
      have hw : wayN l ways (a + 1) < ways := Nat.mod_lt _ hw0
      unfold firstL
      rw [List.getD_eq_getElem?_getD, List.getElem?_map, List.getElem?_range hw]
      rfl
    · rw [if_neg e]
      by_cases e2 : a < i
      · rw [if_pos e2, if_pos (by omega)]
      · rw [if_neg e2, if_neg (by omega)]
theorem first_step (l : List Sy) (ways a : Nat) (h : a < l.length) : firstL l ways a = (firstL l ways (a + 1)).set (wayN l ways (a + 1)) (a + 1) := by
  apply List.ext_getElem
  · simp [first_len]
  · intro i h1 h2
    rw [List.getElem_set]
    simp only [firstL, List.getElem_map, List.getElem_range]
    rw [nxt_step _ _ _ _ h]
theorem first_lt (l : List Sy) (ways a : Nat) (ha : a ≤ l.length) : ∀ x ∈ firstL l ways a, x ≤ l.length := by
  intro x hx
  unfold firstL at hx
  obtain ⟨w, _, rfl⟩ := List.mem_map.1 hx
  exact nxt_le _ _ _ _ ha
theorem next_lt (l : List Sy) (ways a : Nat) : ∀ x ∈ nextL l ways a, x ≤ l.length := by
  intro x hx
  unfold nextL at hx
  obtain ⟨n, hn, rfl⟩ := List.mem_map.1 hx
  have := List.mem_range.1 hn
  split
  · exact nxt_le _ _ _ _ (by omega)
  · omega
theorem nums_lt (l : List Sy) (ways a : Nat) (ha : a ≤ l.length) (hw : ways ≤ 1000000) (hl : l.length ≤ 1000000) : ∀ x ∈ numsAt l ways a, x < 4294967296 := by
  intro x hx
  unfold numsAt at hx
  simp only [List.mem_append, List.mem_cons, List.not_mem_nil, or_false] at hx
  rcases hx with (h | h) | h | h
  · omega
  · omega
  · have := first_lt l ways a ha x h; omega
  · have := next_lt l ways a x h; omega
/-- A table. -/
structure Tb where
  syms : L8
  strs : L8
  hash : L8
def hashB (l : List Sy) (ways : Nat) : L8 := (numsAt l ways 0).flatMap (bN 4)
def okW (l : List Sy) (ways : Int) : Bool := fitL l && decide (1 ≤ ways ∧ ways ≤ 64)
def wrT (l : List Sy) (ways : Int) : Tb := if okW l ways = true then ⟨symsL l, strsL l, hashB l ways.toNat⟩ else ⟨[], [], []⟩
end Go.Proofs.YtgdflobcbhnimaaGreat
namespace Go.Proofs.YtgdflobcbhnimaaGreat
open Go.RowKit
set_option linter.unusedVariables false
set_option linter.unusedSimpArgs false
set_option maxRecDepth 100000
theorem bt_len (p : ByteArray) : p.toList.length = p.size := by rw [ByteArray.toList_eq]; rfl
theorem bal (l : L8) : (⟨l.toArray⟩ : ByteArray).toList = l := by rw [ByteArray.toList_eq]
theorem ba_app (a b : L8) : (⟨a.toArray⟩ : ByteArray) ++ ⟨b.toArray⟩ = ⟨(a ++ b).toArray⟩ := by
  apply ByteArray.ext
  simp
theorem bt_get (p : ByteArray) (i : Nat) (h : i < p.size) (h' : i < p.toList.length) : p[i] = p.toList[i] := by
  have : ∀ l : L8, l = p.toList → ∀ h2 : i < l.length, p[i] = l[i] := by
    intro l hl h2
    have e : p.toList = p.data.toList := ByteArray.toList_eq p
    rw [e] at hl
    subst hl
    simp
    rfl
  exact this _ rfl h'
theorem xor_u32 (a b : Nat) (ha : a < 4294967296) (hb : b < 4294967296) : bits BinOp.xor IntKind.u32 (a : Int) (b : Int) = ((a ^^^ b : Nat) : Int) := by
  have h : a ^^^ b < 4294967296 := Nat.xor_lt_two_pow (n := 32) ha hb
  show IntKind.u32.wrap (((BitVec.ofInt 32 (a : Int) ^^^ BitVec.ofInt 32 (b : Int)).toNat : Nat) : Int) = _
  rw [BitVec.toNat_xor, BitVec.toNat_ofInt, BitVec.toNat_ofInt, IntKind.wrap_u32]
  have ea : ((a : Int) % ((2 ^ 32 : Nat) : Int)).toNat = a := by omega
  have eb : ((b : Int) % ((2 ^ 32 : Nat) : Int)).toNat = b := by omega
  rw [ea, eb]
  omega
theorem andNot_u32 (a b : Nat) (ha : a < 4294967296) (hb : b < 4294967296) : bits BinOp.andNot IntKind.u32 (a : Int) (b : Int) = ((a &&& (4294967295 - b) : Nat) : Int) := by
  have hx : a &&& (4294967295 - b) < 2 ^ 32 := Nat.and_lt_two_pow _ (by omega)
  show IntKind.u32.wrap ((BitVec.ofInt 32 (a : Int) &&& ~~~BitVec.ofInt 32 (b : Int)).toNat : Int) = _
  have ea : ((a : Int) % ((2 ^ 32 : Nat) : Int)).toNat = a := by omega
  have eb : ((b : Int) % ((2 ^ 32 : Nat) : Int)).toNat = b := by omega
  rw [BitVec.toNat_and, BitVec.toNat_not, BitVec.toNat_ofInt, BitVec.toNat_ofInt, ea, eb, IntKind.wrap_u32]
  have e : 2 ^ 32 - 1 - b = 4294967295 - b := by omega
  rw [e]
  omega
/-- The highest four bits of a number of 32. -/
theorem high4 (t : Nat) (ht : t < 4294967296) : t &&& 4026531840 = t / 268435456 * 268435456 := by
  apply Nat.eq_of_testBit_eq
  intro i
  rw [Nat.testBit_and, show (268435456 : Nat) = 2 ^ 28 from rfl, Nat.testBit_mul_two_pow, Nat.testBit_div_two_pow]
  by_cases h : 28 ≤ i
  · rw [decide_eq_true h, Bool.true_and, show i - 28 + 28 = i by omega]
    by_cases h2 : i < 32
    · have : (4026531840 : Nat).testBit i = true := by
        have : i = 28 ∨ i = 29 ∨ i = 30 ∨ i = 31 := by omega
        rcases this with rfl | rfl | rfl | rfl <;> decide
      rw [this, Bool.and_true]
    · have : t.testBit i = false := Nat.testBit_lt_two_pow (Nat.lt_of_lt_of_le ht (by
        have := Nat.pow_le_pow_right (show 0 < 2 by decide) (show 32 ≤ i by omega)
        simpa using this))
      rw [this, Bool.false_and]
  · rw [decide_eq_false h, Bool.false_and]
    have : (4026531840 : Nat).testBit i = false := by
      have key : ∀ j, j < 28 → (4026531840 : Nat).testBit j = false := by decide
      exact key i (by omega)
    rw [this, Bool.and_false]
theorem low28 (x q : Nat) (hx : x < 4294967296) (hq : q < 16) (h : x / 268435456 = q) : x &&& (4294967295 - q * 268435456) = x % 268435456 := by
  apply Nat.eq_of_testBit_eq
  intro i
  rw [Nat.testBit_and, show (268435456 : Nat) = 2 ^ 28 from rfl, Nat.testBit_mod_two_pow, show 4294967295 - q * 2 ^ 28 = 2 ^ 32 - (q * 2 ^ 28 + 1) by omega, Nat.testBit_two_pow_sub_succ (by omega), Nat.testBit_mul_two_pow]
  by_cases h1 : i < 28
  · rw [decide_eq_true h1, decide_eq_true (show i < 32 by omega), decide_eq_false (show ¬ 28 ≤ i by omega)]
    simp
  · rw [decide_eq_false h1, decide_eq_true (show 28 ≤ i by omega)]
    have e : x.testBit i = q.testBit (i - 28) := by
      rw [← h, show (268435456 : Nat) = 2 ^ 28 from rfl, Nat.testBit_div_two_pow, show i - 28 + 28 = i by omega]
    rw [e]
    cases q.testBit (i - 28) <;> simp
theorem xor_top (t q : Nat) (hq : q < 256) : (t ^^^ q) / 268435456 = t / 268435456 := by
  apply Nat.eq_of_testBit_eq
  intro i
  rw [show (268435456 : Nat) = 2 ^ 28 from rfl, Nat.testBit_div_two_pow, Nat.testBit_div_two_pow, Nat.testBit_xor]
  have : q.testBit (i + 28) = false := Nat.testBit_lt_two_pow (Nat.lt_of_lt_of_le hq (by
    have := Nat.pow_le_pow_right (show 0 < 2 by decide) (show 8 ≤ i + 28 by omega)
    simpa using this))
  rw [this, Bool.xor_false]
/-- What a round of Hash makes. -/
theorem hround (h c : Nat) (hh : h < 268435456) (hc : c < 256) : ∃ T G R X H : Nat, ((h : Int) * 16 + (c : Int)) % 4294967296 = (T : Int) ∧ T < 4294967296 ∧ bits .and .u32 (T : Int) 4026531840 = (G : Int) ∧ G < 4294967296 ∧ (G : Int) / 16777216 = (R : Int) ∧ R < 256 ∧
    bits .xor .u32 (T : Int) (R : Int) = (X : Int) ∧ X < 4294967296 ∧ bits .andNot .u32 (X : Int) (G : Int) = (H : Int) ∧ H = hstep h c ∧ H < 268435456 := by
  obtain ⟨T, hT⟩ : ∃ T, T = (16 * h + c) % 4294967296 := ⟨_, rfl⟩
  have hT2 : T < 4294967296 := by omega
  have hq : T / 268435456 < 16 := by omega
  obtain ⟨q, hqq⟩ : ∃ q, q = T / 268435456 := ⟨_, rfl⟩
  rw [← hqq] at hq
  have hG : q * 268435456 < 4294967296 := by omega
  have hX : T ^^^ (q * 16) < 4294967296 := Nat.xor_lt_two_pow (n := 32) hT2 (by omega)
  have hXt : (T ^^^ (q * 16)) / 268435456 = q := by rw [xor_top _ _ (by omega), hqq]
  refine ⟨T, q * 268435456, q * 16, T ^^^ (q * 16), hstep h c, by omega, hT2, ?_, hG, by omega, by omega, ?_, hX, ?_, rfl, hstep_lt _ _⟩
  · have := u32_and_nat T 4026531840 hT2 (by decide)
    rw [high4 T hT2, ← hqq] at this
    exact this
  · exact xor_u32 T _ hT2 (by omega)
  · rw [andNot_u32 _ _ hX hG, low28 _ q hX hq hXt]
    unfold hstep
    rw [← hT, ← hqq]
set_option maxHeartbeats 1000000 in
theorem hash14 (s : ByteArray) (hs : s.size ≤ 1000000) (w : World) : Calls Tryz.prog 105 #[.string s] w fun e w' => e = .returned (.int .u32 (hashL s.toList : Int)) ∧ w' = w := by
  have hlen := bt_len s
  have HL : Hid (s.toList.length = s.size) := hlen
  have HF : Hid (hashL (s.toList.take s.size) = hashL s.toList) := by rw [Hid, ← hlen, List.take_length]
  clear hlen
  go_enter Tryz.func105, Tryz.ntmps105
  go_wp2
  go_loop [3, 8] (fun v i => ∃ k : Nat, k ≤ s.size ∧ i = .int .i64 k ∧ v = .int .u32 ((hashL (s.toList.take k) : Nat) : Int)) (fun _ i => s.size - (intOf i).toNat)
  case atStart => exact ⟨0, Nat.zero_le _, rfl, rfl⟩
  case round =>
    obtain ⟨k, hk, rfl, rfl⟩ := hrel
    by_cases hlt : k < s.size
    · obtain ⟨c, hc⟩ : ∃ c : Nat, c = (s[k]).toNat := ⟨_, rfl⟩
      have hc2 : c < 256 := by rw [hc]; exact (s[k]).toNat_lt
      have hhl := hashL_lt (s.toList.take k)
      have HN : Hid (hashL (s.toList.take (k + 1)) = hstep (hashL (s.toList.take k)) c) := by
        have hk2 : k < s.toList.length := by rw [HL.out]; exact hlt
        rw [Hid, List.take_succ_eq_append_getElem hk2, hashL_snoc, hc, bt_get s k hlt hk2]
      have hcs : (s[k]).toNat = c := hc.symm
      clear hc
      obtain ⟨h, hh⟩ : ∃ h, h = hashL (s.toList.take k) := ⟨_, rfl⟩
      rw [← hh] at hhl HN ⊢
      clear hh
      obtain ⟨T, G, R, X, H, eT, bT, eG, bG, eR, bR, eX, bX, eH, eH2, bH⟩ := hround h c hhl hc2
      have hhi : (h : Int) < 268435456 := by omega
      have hci : (c : Int) < 256 := by omega
      have HE : Hid (H = hstep h c) := eH2
      clear eH2
      go_wp2
      go_round
      case rel => exact ⟨k + 1, by omega, by go_num, by rw [HN.out, ← HE.out]⟩
      case measure => simp [intOf]; omega
    · obtain rfl : k = s.size := by omega
      go_wp2
      go_ret
      exact ⟨by rw [← HF.out]; rfl, rfl⟩
end Go.Proofs.YtgdflobcbhnimaaGreat
namespace Go.Proofs.YtgdflobcbhnimaaGreat
open Go.RowKit
set_option linter.unusedVariables false
set_option linter.unusedSimpArgs false
set_option maxRecDepth 100000
theorem strs_le (l : List Sy) (h : ∀ s ∈ l, FitY s) (hl : l.length ≤ 200) (i : Nat) : (strsL (l.take i)).length ≤ 6401 := by
  have h1 := nms_le (l.take i) (fun s hs => h s (List.mem_of_mem_take hs))
  have h2 : (l.take i).length ≤ 200 := by simp; omega
  rw [strs_len]
  omega
/-- Numbers of a text. -/
theorem flat4_len (xs : List Nat) : (xs.flatMap (bN 4)).length = 4 * xs.length := by
  induction xs with
  | nil => rfl
  | cons x t ih => rw [List.flatMap_cons, List.length_append, bN_len, ih, List.length_cons]; omega
end Go.Proofs.YtgdflobcbhnimaaGreat
