/- What is proved here: tables of symbols in plain words: a name's number, what can be, what is written, what is read, what is found. -/
import Derived.Test.YtmkfgoacbehhcaaWBack
namespace Go.Proofs.Ytmkfgoacbehhcaa
open Go.RowKit
set_option linter.unusedVariables false
set_option linter.unusedSimpArgs false
set_option maxRecDepth 100000
abbrev L8 := List UInt8
/-- n bytes of a number, the highest first. -/
def bN (n v : Nat) : L8 := (W.leB v n).reverse
theorem bN_len (n v : Nat) : (bN n v).length = n := by unfold bN; rw [List.length_reverse, W.leB_length]
theorem be_bN (n v : Nat) : W.beL (bN n v) = v % 2 ^ (8 * n) := W.beL_leB v n
theorem bN_be (l : L8) : bN l.length (W.beL l) = l := by unfold bN; rw [W.leB_beL', List.reverse_reverse]
theorem be4 (v : Nat) (h : v < 4294967296) : W.beL (bN 4 v) = v := by rw [be_bN]; exact Nat.mod_eq_of_lt h
theorem be2 (v : Nat) (h : v < 65536) : W.beL (bN 2 v) = v := by rw [be_bN]; exact Nat.mod_eq_of_lt h
theorem bN_is {l : L8} {n : Nat} (h : l.length = n) : bN n (W.beL l) = l := by subst h; exact bN_be l
def wd (l : L8) (k : Nat) : Nat := W.beL ((l.drop k).take 4)
def hf (l : L8) (k : Nat) : Nat := W.beL ((l.drop k).take 2)
theorem tk (l : L8) (a b c : Nat) (h : c = a + b) : (l.drop a).take b ++ l.drop c = l.drop a := by subst h; rw [← List.drop_drop, List.take_append_drop]
theorem tkt (l : L8) (a b c d : Nat) (h : c = a + b) : (l.drop a).take b ++ (l.drop c).take d = (l.drop a).take (b + d) := by subst h; rw [← List.drop_drop, ← List.take_add]
theorem part_len (l : L8) (a b : Nat) (h : a + b ≤ l.length) : ((l.drop a).take b).length = b := by simp; omega
theorem bN_hf (l : L8) (k : Nat) (h : k + 2 ≤ l.length) : bN 2 (hf l k) = (l.drop k).take 2 := bN_is (part_len l k 2 h)
theorem bN_wd (l : L8) (k : Nat) (h : k + 4 ≤ l.length) : bN 4 (wd l k) = (l.drop k).take 4 := bN_is (part_len l k 4 h)
theorem be_lt (l : L8) (n : Nat) (h : l.length ≤ n) : W.beL l < 256 ^ n := by
  have h1 := W.foldl_lt l 0
  have h2 : 256 ^ l.length ≤ 256 ^ n := Nat.pow_le_pow_right (by decide) h
  unfold W.beL
  omega
theorem wd_lt (l : L8) (k : Nat) : wd l k < 4294967296 := be_lt _ 4 (by simp; omega)
theorem hf_lt (l : L8) (k : Nat) : hf l k < 65536 := be_lt _ 2 (by simp; omega)
/-- A symbol. -/
structure Sy where
  name : L8
  value : Nat
  size : Nat
  bind : Int
  part : Int
structure Sy.Bd (s : Sy) : Prop where
  v : s.value < 4294967296
  z : s.size < 4294967296
  b0 : -9223372036854775808 ≤ s.bind
  b1 : s.bind ≤ 9223372036854775807
  p0 : -9223372036854775808 ≤ s.part
  p1 : s.part ≤ 9223372036854775807
theorem Sy.ext' {a b : Sy} (h1 : a.name = b.name) (h2 : a.value = b.value) (h3 : a.size = b.size) (h4 : a.bind = b.bind) (h5 : a.part = b.part) : a = b := by
  cases a; cases b; simp_all
/-- A name's number, a byte further. -/
def hstep (h c : Nat) : Nat := (((16 * h + c) % 4294967296) ^^^ ((16 * h + c) % 4294967296 / 268435456 * 16)) % 268435456
def hashL (l : L8) : Nat := l.foldl (fun h c => hstep h c.toNat) 0
theorem hstep_lt (h c : Nat) : hstep h c < 268435456 := Nat.mod_lt _ (by decide)
theorem hashL_snoc (l : L8) (c : UInt8) : hashL (l ++ [c]) = hstep (hashL l) c.toNat := by unfold hashL; rw [List.foldl_append]; rfl
theorem hashL_lt (l : L8) : hashL l < 268435456 := by
  rcases List.eq_nil_or_concat l with rfl | ⟨m, c, rfl⟩
  · decide
  · rw [List.concat_eq_append, hashL_snoc]; exact hstep_lt _ _
/-- A symbol that can be. -/
def FitY (s : Sy) : Prop := 1 ≤ s.name.length ∧ s.name.length ≤ 31 ∧ 0 ∉ s.name ∧ 0 ≤ s.bind ∧ s.bind ≤ 2 ∧ 0 ≤ s.part ∧ s.part ≤ 2
instance (s : Sy) : Decidable (FitY s) := by unfold FitY; exact inferInstance
def fitY (s : Sy) : Bool := decide (FitY s)
def fitL (l : List Sy) : Bool := decide (l.length ≤ 200) && l.all fitY
theorem fitL_parts {l : List Sy} (h : fitL l = true) : l.length ≤ 200 ∧ ∀ s ∈ l, FitY s := by
  unfold fitL at h
  rw [Bool.and_eq_true, decide_eq_true_eq, List.all_eq_true] at h
  exact ⟨h.1, fun g hg => of_decide_eq_true (h.2 g hg)⟩
theorem fitL_of {l : List Sy} (h : l.length ≤ 200) (h2 : ∀ s ∈ l, FitY s) : fitL l = true := by
  unfold fitL
  rw [Bool.and_eq_true, decide_eq_true_eq, List.all_eq_true]
  exact ⟨h, fun g hg => decide_eq_true (h2 g hg)⟩
/-- A symbol's row, its name standing at a place. -/
def rowB (s : Sy) (o : Nat) : L8 := bN 4 o ++ (bN 4 s.value ++ (bN 4 s.size ++ (bN 1 (s.bind.toNat * 16) ++ (bN 1 0 ++ bN 2 s.part.toNat))))
theorem rowB_len (s : Sy) (o : Nat) : (rowB s o).length = 16 := by unfold rowB; simp only [List.length_append, bN_len]
def nmB (s : Sy) : L8 := s.name ++ [0]
def strsL (l : List Sy) : L8 := 0 :: l.flatMap nmB
def rowsG : Nat → List Sy → L8
  | _, [] => []
  | o, s :: t => rowB s o ++ rowsG (o + (s.name.length + 1)) t
theorem nm_len (l : List Sy) (o : Nat) : ∀ s, o + (l.flatMap nmB).length + (s : Sy).name.length + 1 = o + ((l ++ [s]).flatMap nmB).length := by
  intro s
  simp [nmB]
  omega
theorem rowsG_snoc (l : List Sy) : ∀ (o : Nat) (s : Sy), rowsG o (l ++ [s]) = rowsG o l ++ rowB s (o + (l.flatMap nmB).length) := by
  induction l with
  | nil => intro o s; simp [rowsG]
  | cons a t ih =>
    intro o s
    rw [List.cons_append, rowsG, ih, rowsG, List.append_assoc]
    have : o + (a.name.length + 1) + (t.flatMap nmB).length = o + ((a :: t).flatMap nmB).length := by simp [nmB]; omega
    rw [this]
theorem rowsG_len (l : List Sy) : ∀ o, (rowsG o l).length = 16 * l.length := by
  induction l with
  | nil => intro o; rfl
  | cons a t ih => intro o; rw [rowsG, List.length_append, rowB_len, ih, List.length_cons]; omega
def zero16 : L8 := [0, 0, 0, 0, 0, 0, 0, 0, 0, 0, 0, 0, 0, 0, 0, 0]
def symsL (l : List Sy) : L8 := zero16 ++ rowsG 1 l
theorem strs_snoc (l : List Sy) (s : Sy) : strsL (l ++ [s]) = strsL l ++ nmB s := by unfold strsL; simp
theorem strs_len (l : List Sy) : (strsL l).length = 1 + (l.flatMap nmB).length := by unfold strsL; simp; omega
theorem syms_snoc (l : List Sy) (s : Sy) : symsL (l ++ [s]) = symsL l ++ rowB s (strsL l).length := by unfold symsL; rw [rowsG_snoc, strs_len, List.append_assoc]
theorem syms_len (l : List Sy) : (symsL l).length = 16 * (l.length + 1) := by unfold symsL; rw [List.length_append, rowsG_len]; show 16 + _ = _; omega
theorem nms_le (l : List Sy) (h : ∀ s ∈ l, FitY s) : (l.flatMap nmB).length ≤ 32 * l.length := by
  induction l with
  | nil => simp
  | cons a t ih =>
    have h1 := (h a (by simp)).2.1
    have h2 := ih (fun s hs => h s (by simp [hs]))
    simp only [List.flatMap_cons, List.length_append, List.length_cons, nmB, List.length_nil] at h2 ⊢
    omega
/-- The next one of a way, behind a place. -/
def nxtF (f : Nat → Nat) (w : Nat) : Nat → Nat → Nat
  | 0, _ => 0
  | k + 1, n => if f n = w then n else nxtF f w k (n + 1)
def nxt (f : Nat → Nat) (len w a : Nat) : Nat := nxtF f w (len - a) (a + 1)
theorem nxt_end (f : Nat → Nat) (len w : Nat) : nxt f len w len = 0 := by unfold nxt; rw [Nat.sub_self]; rfl
theorem nxt_step (f : Nat → Nat) (len w a : Nat) (h : a < len) : nxt f len w a = if f (a + 1) = w then a + 1 else nxt f len w (a + 1) := by
  unfold nxt
  obtain ⟨k, hk⟩ : ∃ k, len - a = k + 1 := ⟨len - a - 1, by omega⟩
  rw [hk, show len - (a + 1) = k by omega]
  rfl
theorem nxtF_le (f : Nat → Nat) (w : Nat) : ∀ k n, nxtF f w k n < n + k ∨ nxtF f w k n = 0
  | 0, n => Or.inr rfl
  | k + 1, n => by
    rw [nxtF]
    split
    · left; omega
    · rcases nxtF_le f w k (n + 1) with h | h
      · left; omega
      · right; exact h
theorem nxt_le (f : Nat → Nat) (len w a : Nat) (ha : a ≤ len) : nxt f len w a ≤ len := by
  have := nxtF_le f w (len - a) (a + 1)
  unfold nxt
  omega
/-- A symbol's way; symbols are counted from 1 on. -/
def wayN (l : List Sy) (ways n : Nat) : Nat := hashL ((l[n - 1]?.getD ⟨[], 0, 0, 0, 0⟩).name) % ways
theorem way_at (l : List Sy) (ways k : Nat) (h : k < l.length) : wayN l ways (k + 1) = hashL (l[k].name) % ways := by
  unfold wayN
  rw [Nat.add_sub_cancel, List.getElem?_eq_getElem h]; rfl
def firstL (l : List Sy) (ways a : Nat) : List Nat := (List.range ways).map fun w => nxt (wayN l ways) l.length w a
def nextL (l : List Sy) (ways a : Nat) : List Nat := (List.range (l.length + 1)).map fun n => if a < n then nxt (wayN l ways) l.length (wayN l ways n) n else 0
def numsAt (l : List Sy) (ways a : Nat) : List Nat := [ways, l.length + 1] ++ (firstL l ways a ++ nextL l ways a)
theorem first_len (l : List Sy) (ways a : Nat) : (firstL l ways a).length = ways := by unfold firstL; simp
theorem next_len (l : List Sy) (ways a : Nat) : (nextL l ways a).length = l.length + 1 := by unfold nextL; simp
theorem nums_len (l : List Sy) (ways a : Nat) : (numsAt l ways a).length = 2 + ways + (l.length + 1) := by unfold numsAt; simp only [List.length_append, first_len, next_len]; show 2 + _ = _; omega
theorem first_end (l : List Sy) (ways : Nat) : firstL l ways l.length = List.replicate ways 0 := by
  unfold firstL
  apply List.ext_getElem
  · simp
  · intro i h1 h2
    simp [nxt_end]
theorem next_end (l : List Sy) (ways : Nat) : nextL l ways l.length = List.replicate (l.length + 1) 0 := by
  unfold nextL
  apply List.ext_getElem
  · simp
  · intro i h1 h2
    simp at h1
    simp
    omega
/-- One symbol more: n = a + 1. -/
theorem next_step (l : List Sy) (ways a : Nat) (h : a < l.length) (hw0 : 0 < ways) : nextL l ways a = (nextL l ways (a + 1)).set (a + 1) ((firstL l ways (a + 1)).getD (wayN l ways (a + 1)) 0) := by
  apply List.ext_getElem
  · simp [next_len]
  · intro i h1 h2
    rw [next_len] at h1
    rw [List.getElem_set]
    simp only [nextL, List.getElem_map, List.getElem_range]
    by_cases e : a + 1 = i
    · subst e
      rw [if_pos (by omega), if_pos rfl]
      have hw : wayN l ways (a + 1) < ways := Nat.mod_lt _ hw0
      unfold firstL
      rw [List.getD_eq_getElem?_getD, List.getElem?_map, List.getElem?_range hw]
      rfl
    · rw [if_neg e]
      by_cases e2 : a < i
      · rw [if_pos e2, if_pos (by omega)]
      · rw [if_neg e2, if_neg (by omega)]
theorem first_step (l : List Sy) (ways a : Nat) (h : a < l.length) : firstL l ways a = (firstL l ways (a + 1)).set (wayN l ways (a + 1)) (a + 1) := by
  apply List.ext_getElem
  · simp [first_len]
  · intro i h1 h2
    rw [List.getElem_set]
    simp only [firstL, List.getElem_map, List.getElem_range]
    rw [nxt_step _ _ _ _ h]
theorem first_lt (l : List Sy) (ways a : Nat) (ha : a ≤ l.length) : ∀ x ∈ firstL l ways a, x ≤ l.length := by
  intro x hx
  unfold firstL at hx
  obtain ⟨w, _, rfl⟩ := List.mem_map.1 hx
  exact nxt_le _ _ _ _ ha
theorem next_lt (l : List Sy) (ways a : Nat) : ∀ x ∈ nextL l ways a, x ≤ l.length := by
  intro x hx
  unfold nextL at hx
  obtain ⟨n, hn, rfl⟩ := List.mem_map.1 hx
  have := List.mem_range.1 hn
  split
  · exact nxt_le _ _ _ _ (by omega)
  · omega
theorem nums_lt (l : List Sy) (ways a : Nat) (ha : a ≤ l.length) (hw : ways ≤ 1000000) (hl : l.length ≤ 1000000) : ∀ x ∈ numsAt l ways a, x < 4294967296 := by
  intro x hx
  unfold numsAt at hx
  simp only [List.mem_append, List.mem_cons, List.not_mem_nil, or_false] at hx
  rcases hx with (h | h) | h | h
  · omega
  · omega
  · have := first_lt l ways a ha x h; omega
  · have := next_lt l ways a x h; omega
/-- A table. -/
structure Tb where
  syms : L8
  strs : L8
  hash : L8
def hashB (l : List Sy) (ways : Nat) : L8 := (numsAt l ways 0).flatMap (bN 4)
def okW (l : List Sy) (ways : Int) : Bool := fitL l && decide (1 ≤ ways ∧ ways ≤ 64)
def wrT (l : List Sy) (ways : Int) : Tb := if okW l ways = true then ⟨symsL l, strsL l, hashB l ways.toNat⟩ else ⟨[], [], []⟩
/-- What stands in a table. -/
def nameAt (strs : L8) (o : Nat) : L8 := (strs.drop o).takeWhile (· != 0)
def endsAt (strs : L8) (o : Nat) : Bool := decide (o < strs.length) && (strs.drop o).contains 0
def symN (strs row : L8) : Sy := ⟨nameAt strs (wd row 0), wd row 4, wd row 8, (((row.drop 12).headD 0).toNat / 16 : Nat), (hf row 14 : Int)⟩
def rowOk (strs row : L8) : Bool := endsAt strs (wd row 0) && (rowB (symN strs row) (wd row 0) == row)
def rowAt (syms : L8) (i : Nat) : L8 := (syms.drop (16 * i)).take 16
def symsAt (t : Tb) (n : Nat) : List Sy := (List.range n).map fun i => symN t.strs (rowAt t.syms (i + 1))
def rowsOk (t : Tb) (n : Nat) : Bool := (List.range n).all fun i => rowOk t.strs (rowAt t.syms (i + 1))
def lenOk (t : Tb) : Bool := decide (t.syms.length % 16 = 0 ∧ 16 ≤ t.syms.length ∧ t.syms.length ≤ 3216)
def cntN (t : Tb) : Nat := t.syms.length / 16 - 1
def readE (t : Tb) : Bool := lenOk t && (t.syms.take 16 == zero16) && rowsOk t (cntN t) && fitL (symsAt t (cntN t))
def readL (t : Tb) : List Sy := if readE t = true then symsAt t (cntN t) else []
/-- A number of a text; 0, if it is not there. -/
def wAt (hs : L8) (k : Nat) : Nat := if k < hs.length / 4 then wd hs (4 * k) else 0
def goF (hs : L8) (ways cnt : Nat) (p : Nat → Bool) : Nat → Nat → Nat
  | 0, _ => 0
  | f + 1, o => if wAt hs (2 + o) = 0 ∨ cnt ≤ wAt hs (2 + o) then 0 else if p (wAt hs (2 + o)) = true then wAt hs (2 + o) else goF hs ways cnt p f (ways + wAt hs (2 + o))
def isIt (l : List Sy) (name : L8) (n : Nat) : Bool := match l[n - 1]? with
  | none => false
  | some s => (s.name == name) && (s.part != 0 && s.bind != 0)
def findIn (hs : L8) (l : List Sy) (name : L8) : Nat := if wAt hs 0 = 0 then 0 else goF hs (wAt hs 0) (l.length + 1) (isIt l name) (l.length + 1) (hashL name % wAt hs 0)
def findN (t : Tb) (name : L8) : Nat := if readE t = true then findIn t.hash (readL t) name else 0
end Go.Proofs.Ytmkfgoacbehhcaa
