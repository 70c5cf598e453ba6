/- What is proved here: the header of a file in plain words: what is read, what can be, what is written; there and back. -/
import Derived.Test.YthhallhmolgpbaaWBack
namespace Go.Proofs.Ythhallhmolgpbaa
open Go.RowKit
set_option linter.unusedVariables false
set_option linter.unusedSimpArgs false
set_option maxRecDepth 100000
abbrev L8 := List UInt8
/-- n bytes of a number, the highest first. -/
def bN (n v : Nat) : L8 := (W.leB v n).reverse
theorem bN_len (n v : Nat) : (bN n v).length = n := by unfold bN; rw [List.length_reverse, W.leB_length]
theorem be_bN (n v : Nat) : W.beL (bN n v) = v % 2 ^ (8 * n) := W.beL_leB v n
theorem bN_be (l : L8) : bN l.length (W.beL l) = l := by unfold bN; rw [W.leB_beL', List.reverse_reverse]
theorem be4 (v : Nat) (h : v < 4294967296) : W.beL (bN 4 v) = v := by rw [be_bN]; exact Nat.mod_eq_of_lt h
theorem be2 (v : Nat) (h : v < 65536) : W.beL (bN 2 v) = v := by rw [be_bN]; exact Nat.mod_eq_of_lt h
theorem bN_is {l : L8} {n : Nat} (h : l.length = n) : bN n (W.beL l) = l := by subst h; exact bN_be l
/-- A segment. -/
structure Sg where
  kind : Int
  off : Nat
  at_ : Nat
  size : Nat
  room : Nat
  prot : Int
  align : Nat
structure Sg.Bd (g : Sg) : Prop where
  k0 : -9223372036854775808 ≤ g.kind
  k1 : g.kind ≤ 9223372036854775807
  o : g.off < 4294967296
  a : g.at_ < 4294967296
  s : g.size < 4294967296
  r : g.room < 4294967296
  p0 : -9223372036854775808 ≤ g.prot
  p1 : g.prot ≤ 9223372036854775807
  l : g.align < 4294967296
/-- A header. -/
structure Ef where
  shared : Bool
  entry : Nat
  segs : List Sg
def wd (l : L8) (k : Nat) : Nat := W.beL ((l.drop k).take 4)
def hf (l : L8) (k : Nat) : Nat := W.beL ((l.drop k).take 2)
/-- What may be done, of flags. -/
def protN (f : Nat) : Nat := (if f % 2 = 1 then 4 else 0) + ((if f / 2 % 2 = 1 then 2 else 0) + (if f / 4 % 2 = 1 then 1 else 0))
theorem protN_le (f : Nat) : protN f ≤ 7 := by unfold protN; split <;> split <;> split <;> omega
theorem protN_back : ∀ f, f ≤ 7 → protN (protN f) = f := by decide
def segN (l : L8) : Sg := ⟨(wd l 0 : Int), wd l 4, wd l 8, wd l 16, wd l 20, (protN (wd l 24) : Int), wd l 28⟩
def segOk (l : L8) : Bool := wd l 8 == wd l 12 && decide (wd l 24 ≤ 7)
/-- A segment that can be. -/
def FitS (g : Sg) : Prop := 0 ≤ g.prot ∧ g.prot ≤ 7 ∧ g.size ≤ g.room ∧ g.off + g.size < 4294967296 ∧ g.at_ + g.room < 4294967296 ∧ ((g.kind = 1 ∧ g.align = 4096 ∧ g.off % 4096 = g.at_ % 4096) ∨ ((g.kind = 2 ∨ g.kind = 3) ∧ g.align ≤ 4096))
instance (g : Sg) : Decidable (FitS g) := by unfold FitS; exact inferInstance
def fitS (g : Sg) : Bool := decide (FitS g)
def fitE (e : Ef) : Bool := decide (e.segs.length ≤ 16) && e.segs.all fitS
def magicL : L8 := [127, 69, 76, 70, 1, 2, 1, 0, 0, 0, 0, 0, 0, 0, 0, 0]
def entL : L8 := [0, 8, 0, 0, 0, 1]
def cntL : L8 := [0, 0, 0, 52, 0, 0, 0, 0, 112, 0, 16, 0, 0, 52, 0, 32]
def endL : L8 := [0, 0, 0, 0, 0, 0]
def formOk (l : L8) : Bool := (hf l 16 == 2 || hf l 16 == 3) && (((l.drop 18).take 6 == entL) && (((l.drop 28).take 16 == cntL) && (decide (hf l 44 ≤ 16) && ((l.drop 46).take 6 == endL))))
def segsAt (l : L8) (n : Nat) : List Sg := (List.range n).map fun i => segN (l.drop (52 + 32 * i))
def segsOk (l : L8) (n : Nat) : Bool := (List.range n).all fun i => segOk (l.drop (52 + 32 * i))
def efAt (l : L8) : Ef := ⟨hf l 16 == 3, wd l 24, segsAt l (hf l 44)⟩
/-- The first error of a header; 0: none. -/
def hdE (l : L8) : Nat := if l.length < 52 then 101 else if (l.take 16 == magicL) = false then 102 else if formOk l = false then 103 else if l.length < 52 + 32 * hf l 44 then 101 else if segsOk l (hf l 44) = false then 103 else if fitE (efAt l) = false then 103 else 0
def farS (n : Nat) (g : Sg) : Bool := decide (n < g.off + g.size)
def parE (l : L8) : Nat := if hdE l = 0 then (if (efAt l).segs.any (farS l.length) = true then 104 else 0) else hdE l
def zeroE : Ef := ⟨false, 0, []⟩
def parF (l : L8) : Ef := if parE l = 0 then efAt l else zeroE
/-- A segment's bytes. -/
def segB (g : Sg) : L8 := bN 4 (g.kind % 4294967296).toNat ++ (bN 4 g.off ++ (bN 4 g.at_ ++ (bN 4 g.at_ ++ (bN 4 g.size ++ (bN 4 g.room ++ (bN 4 (protN (g.prot % 4294967296).toNat) ++ bN 4 g.align))))))
def headB (e : Ef) : L8 := magicL ++ (bN 2 (if e.shared then 3 else 2) ++ (entL ++ (bN 4 e.entry ++ (cntL ++ (bN 2 e.segs.length ++ endL)))))
def wrL (e : Ef) : L8 := if fitE e = true then headB e ++ e.segs.flatMap segB else []
theorem segB_len (g : Sg) : (segB g).length = 32 := by unfold segB; simp only [List.length_append, bN_len]
theorem headB_len (e : Ef) : (headB e).length = 52 := by unfold headB; simp only [List.length_append, bN_len]; rfl
theorem flat_len (gs : List Sg) : (gs.flatMap segB).length = 32 * gs.length := by
  induction gs with
  | nil => rfl
  | cons g t ih => rw [List.flatMap_cons, List.length_append, segB_len, ih, List.length_cons]; omega
theorem fitE_parts {e : Ef} (h : fitE e = true) : e.segs.length ≤ 16 ∧ ∀ g ∈ e.segs, FitS g := by
  unfold fitE at h
  rw [Bool.and_eq_true, decide_eq_true_eq, List.all_eq_true] at h
  exact ⟨h.1, fun g hg => of_decide_eq_true (h.2 g hg)⟩
theorem hd_zero {l : L8} (h : hdE l = 0) : 52 ≤ l.length ∧ (l.take 16 == magicL) = true ∧ formOk l = true ∧ 52 + 32 * hf l 44 ≤ l.length ∧ segsOk l (hf l 44) = true ∧ fitE (efAt l) = true := by
  unfold hdE at h
  by_cases h1 : l.length < 52
  · rw [if_pos h1] at h; cases h
  rw [if_neg h1] at h
  by_cases h2 : (l.take 16 == magicL) = false
  · rw [if_pos h2] at h; cases h
  rw [if_neg h2] at h
  by_cases h3 : formOk l = false
  · rw [if_pos h3] at h; cases h
  rw [if_neg h3] at h
  by_cases h4 : l.length < 52 + 32 * hf l 44
  · rw [if_pos h4] at h; cases h
  rw [if_neg h4] at h
  by_cases h5 : segsOk l (hf l 44) = false
  · rw [if_pos h5] at h; cases h
  rw [if_neg h5] at h
  by_cases h6 : fitE (efAt l) = false
  · rw [if_pos h6] at h; cases h
  exact ⟨by omega, by simpa using h2, by simpa using h3, by omega, by simpa using h5, by simpa using h6⟩
theorem hd_of {l : L8} (h1 : 52 ≤ l.length) (h2 : (l.take 16 == magicL) = true) (h3 : formOk l = true) (h4 : 52 + 32 * hf l 44 ≤ l.length) (h5 : segsOk l (hf l 44) = true) (h6 : fitE (efAt l) = true) : hdE l = 0 := by
  unfold hdE
  rw [if_neg (by omega), if_neg (by rw [h2]; decide), if_neg (by rw [h3]; decide), if_neg (by omega), if_neg (by rw [h5]; decide), if_neg (by rw [h6]; decide)]
theorem par_zero {l : L8} (h : parE l = 0) : hdE l = 0 ∧ (efAt l).segs.any (farS l.length) = false := by
  unfold parE at h
  by_cases h1 : hdE l = 0
  · rw [if_pos h1] at h
    by_cases h2 : (efAt l).segs.any (farS l.length) = true
    · rw [if_pos h2] at h; cases h
    · exact ⟨h1, by simpa using h2⟩
  · rw [if_neg h1] at h; exact absurd h h1
theorem par_of {l : L8} (h : hdE l = 0) (h2 : (efAt l).segs.any (farS l.length) = false) : parE l = 0 := by
  unfold parE
  rw [if_pos h, if_neg (by rw [h2]; decide)]
theorem form_parts {l : L8} (h : formOk l = true) : (hf l 16 = 2 ∨ hf l 16 = 3) ∧ (l.drop 18).take 6 = entL ∧ (l.drop 28).take 16 = cntL ∧ hf l 44 ≤ 16 ∧ (l.drop 46).take 6 = endL := by
  unfold formOk at h
  simp only [Bool.and_eq_true, Bool.or_eq_true, beq_iff_eq, decide_eq_true_eq] at h
  exact h
theorem form_of {l : L8} (h1 : hf l 16 = 2 ∨ hf l 16 = 3) (h2 : (l.drop 18).take 6 = entL) (h3 : (l.drop 28).take 16 = cntL) (h4 : hf l 44 ≤ 16) (h5 : (l.drop 46).take 6 = endL) : formOk l = true := by
  unfold formOk
  simp only [Bool.and_eq_true, Bool.or_eq_true, beq_iff_eq, decide_eq_true_eq]
  exact ⟨h1, h2, h3, h4, h5⟩
theorem tk (l : L8) (a b c : Nat) (h : c = a + b) : (l.drop a).take b ++ l.drop c = l.drop a := by subst h; rw [← List.drop_drop, List.take_append_drop]
theorem tkt (l : L8) (a b c d : Nat) (h : c = a + b) : (l.drop a).take b ++ (l.drop c).take d = (l.drop a).take (b + d) := by subst h; rw [← List.drop_drop, ← List.take_add]
theorem part_len (l : L8) (a b : Nat) (h : a + b ≤ l.length) : ((l.drop a).take b).length = b := by simp; omega
theorem bN_hf (l : L8) (k : Nat) (h : k + 2 ≤ l.length) : bN 2 (hf l k) = (l.drop k).take 2 := bN_is (part_len l k 2 h)
theorem bN_wd (l : L8) (k : Nat) (h : k + 4 ≤ l.length) : bN 4 (wd l k) = (l.drop k).take 4 := bN_is (part_len l k 4 h)
theorem be_lt (l : L8) (n : Nat) (h : l.length ≤ n) : W.beL l < 256 ^ n := by
  have h1 := W.foldl_lt l 0
  have h2 : 256 ^ l.length ≤ 256 ^ n := Nat.pow_le_pow_right (by decide) h
  unfold W.beL
  omega
theorem wd_lt (l : L8) (k : Nat) : wd l k < 4294967296 := be_lt _ 4 (by simp; omega)
theorem hf_lt (l : L8) (k : Nat) : hf l k < 65536 := be_lt _ 2 (by simp; omega)
theorem segN_bd (l : L8) : (segN l).Bd := by
  have h0 := wd_lt l 0
  have h6 := protN_le (wd l 24)
  refine ⟨?_, ?_, wd_lt _ _, wd_lt _ _, wd_lt _ _, wd_lt _ _, ?_, ?_, wd_lt _ _⟩ <;> simp only [segN] <;> omega
theorem seg_back (l : L8) (h : 32 ≤ l.length) (hok : segOk l = true) : segB (segN l) = l.take 32 := by
  unfold segOk at hok
  rw [Bool.and_eq_true, beq_iff_eq, decide_eq_true_eq] at hok
  have h0 := wd_lt l 0
  have e0 : (((wd l 0 : Nat) : Int) % 4294967296).toNat = wd l 0 := by omega
  have h6 := protN_le (wd l 24)
  have e6 : (((protN (wd l 24) : Nat) : Int) % 4294967296).toNat = protN (wd l 24) := by omega
  unfold segB segN
  simp only [e0, e6, protN_back _ hok.2]
  conv => lhs; rw [bN_wd l 0 (by omega), bN_wd l 4 (by omega)]
  rw [bN_wd l 16 (by omega), bN_wd l 20 (by omega), bN_wd l 24 (by omega), bN_wd l 28 (by omega)]
  rw [show bN 4 (wd l 8) ++ (bN 4 (wd l 8) ++ (List.take 4 (List.drop 16 l) ++ (List.take 4 (List.drop 20 l) ++ (List.take 4 (List.drop 24 l) ++ List.take 4 (List.drop 28 l))))) = bN 4 (wd l 8) ++ (bN 4 (wd l 12) ++ (List.take 4 (List.drop 16 l) ++ (List.take 4 (List.drop 20 l) ++ (List.take 4 (List.drop 24 l) ++ List.take 4 (List.drop 28 l))))) from by rw [← hok.1]]
  rw [bN_wd l 8 (by omega), bN_wd l 12 (by omega)]
  rw [tkt l 24 4 28 4 rfl, tkt l 20 4 24 8 rfl, tkt l 16 4 20 12 rfl, tkt l 12 4 16 16 rfl, tkt l 8 4 12 20 rfl, tkt l 4 4 8 24 rfl, tkt l 0 4 4 28 rfl]
  rfl
theorem head_back (l : L8) (h : 52 ≤ l.length) (hm : (l.take 16 == magicL) = true) (hfm : formOk l = true) : headB (efAt l) = l.take 52 := by
  obtain ⟨k, h2, h3, h4, h5⟩ := form_parts hfm
  have hm : l.take 16 = magicL := by simpa using hm
  unfold headB efAt
  have e1 : (if (hf l 16 == 3) = true then 3 else 2) = hf l 16 := by rcases k with k | k <;> rw [k] <;> rfl
  have e2 : (segsAt l (hf l 44)).length = hf l 44 := by unfold segsAt; simp
  simp only [e1, e2]
  rw [bN_hf l 16 (by omega), bN_wd l 24 (by omega), bN_hf l 44 (by omega), ← h2, ← h3, ← h5, ← hm]
  rw [tkt l 44 2 46 6 rfl, tkt l 28 16 44 8 rfl, tkt l 24 4 28 24 rfl, tkt l 18 6 24 28 rfl, tkt l 16 2 18 34 rfl]
  have := tkt l 0 16 16 36 rfl
  rw [List.drop_zero] at this
  exact this
theorem segs_back (l : L8) : ∀ n, 52 + 32 * n ≤ l.length → segsOk l n = true → (segsAt l n).flatMap segB = (l.drop 52).take (32 * n)
  | 0, _, _ => by simp [segsAt]
  | n + 1, h, hok => by
    have ho : segsOk l n = true ∧ segOk (l.drop (52 + 32 * n)) = true := by
      unfold segsOk at hok ⊢
      rw [List.range_succ, List.all_append, Bool.and_eq_true] at hok
      exact ⟨hok.1, by simpa using hok.2⟩
    have ih := segs_back l n (by omega) ho.1
    have e : segsAt l (n + 1) = segsAt l n ++ [segN (l.drop (52 + 32 * n))] := by unfold segsAt; rw [List.range_succ, List.map_append]; rfl
    rw [e, List.flatMap_append, ih, List.flatMap_cons, List.flatMap_nil, List.append_nil, seg_back _ (by simp; omega) ho.2]
    exact tkt l 52 (32 * n) (52 + 32 * n) 32 rfl
/-- What is read is written as the first bytes. -/
theorem parse_write {l : L8} (h : hdE l = 0) : wrL (efAt l) = l.take (52 + 32 * (efAt l).segs.length) ∧ 52 + 32 * (efAt l).segs.length ≤ l.length := by
  obtain ⟨h1, h2, h3, h4, h5, h6⟩ := hd_zero h
  have e2 : (efAt l).segs.length = hf l 44 := by show (segsAt l (hf l 44)).length = _; unfold segsAt; simp
  refine ⟨?_, by rw [e2]; exact h4⟩
  unfold wrL
  rw [if_pos h6, head_back l h1 h2 h3, show (efAt l).segs = segsAt l (hf l 44) from rfl, segs_back l _ h4 h5, show (segsAt l (hf l 44)).length = hf l 44 from e2, List.take_add]
end Go.Proofs.Ythhallhmolgpbaa
