/- What is proved here: plain words for a text's lines and their words: what Assemble tells. -/
import Derived.Test.YtglkkeelocdanaaDoorNv
namespace Go.Proofs.YtglkkeelocdanaaDoor
open Go.RowKit
set_option linter.unusedVariables false
set_option linter.unusedSimpArgs false
set_option maxRecDepth 100000
/-- A hex digit's number. -/
def hvO (c : UInt8) : Option Nat := if 48 ≤ c.toNat ∧ c.toNat ≤ 57 then some (c.toNat - 48) else if 97 ≤ c.toNat ∧ c.toNat ≤ 102 then some (c.toNat - 87) else none
theorem hvO_lt {c : UInt8} {d : Nat} (h : hvO c = some d) : d < 16 := by
  unfold hvO at h
  split at h
  · injection h with h; omega
  · split at h
    · injection h with h; omega
    · cases h
/-- Hex digits, read behind a number. -/
def hexN : Nat → L8 → Option Nat
  | v, [] => some v
  | v, c :: t => match hvO c with
    | some d => hexN (v * 16 + d) t
    | none => none
/-- Hex digits, two a byte. -/
def rawL : L8 → Option L8
  | [] => some []
  | [_] => none
  | a :: b :: t => match hvO a with
    | none => none
    | some x => match hvO b with
      | none => none
      | some y => (rawL t).map (fun r => UInt8.ofNat (16 * x + y) :: r)
theorem raw_len : ∀ (n : Nat) (l bs : L8), l.length ≤ n → rawL l = some bs → l.length = 2 * bs.length
  | _, [], bs, _, h => by
    rw [rawL] at h; injection h with h; subst h; rfl
  | _, [_], bs, _, h => by
    rw [rawL] at h; cases h
  | 0, a :: b :: t, bs, hn, h => by simp at hn
  | n + 1, a :: b :: t, bs, hn, h => by
    rw [rawL] at h
    cases ha : hvO a with
    | none => rw [ha] at h; cases h
    | some x =>
      cases hb : hvO b with
      | none => rw [ha, hb] at h; cases h
      | some y =>
        rw [ha, hb] at h
        obtain ⟨r, h1, h2⟩ := Option.map_eq_some_iff.1 h
        have := raw_len n t r (by simp at hn; omega) h1
        rw [← h2]
        simp
        omega
theorem hex_raw : ∀ (n : Nat) (l : L8) (v : Nat), l.length ≤ n → l.length % 2 = 0 → hexN v l = (rawL l).map (fun bs => bs.foldl (fun v c => v * 256 + c.toNat) v)
  | _, [], v, _, _ => by simp [hexN, rawL]
  | _, [a], v, _, h => by simp at h
  | 0, a :: b :: t, v, hn, _ => by simp at hn
  | n + 1, a :: b :: t, v, hn, h2 => by
    rw [hexN, rawL]
    cases ha : hvO a with
    | none => rfl
    | some x =>
      simp only []
      rw [hexN]
      cases hb : hvO b with
      | none => rfl
      | some y =>
        simp only []
        rw [hex_raw n t _ (by simp at hn; omega) (by simp at h2; omega)]
        have hx := hvO_lt ha
        have hy := hvO_lt hb
        cases rawL t with
        | none => rfl
        | some r =>
          simp only [Option.map_some, List.foldl_cons]
          congr 2
          have e : (UInt8.ofNat (16 * x + y)).toNat = 16 * x + y := by simp; omega
          rw [e]
          omega
theorem leB_cons (v k : Nat) : W.leB v (k + 1) = UInt8.ofNat (v % 256) :: W.leB (v / 256) k := by
  induction k with
  | zero => simp [W.leB, W.byteAt]
  | succ k ih =>
    have e : W.byteAt v (k + 1) = W.byteAt (v / 256) k := by
      unfold W.byteAt
      rw [Nat.div_div_eq_div_mul, Nat.mul_add, Nat.pow_add, Nat.mul_comm]
    rw [W.leB, ih, W.leB, e]; simp
theorem leB_beL : ∀ (m l : L8), m = l.reverse → W.leB (W.beL l) l.length = m := by
  intro m
  induction m with
  | nil => intro l h; have : l = [] := by simpa using h.symm
           subst this; rfl
  | cons c m ih =>
    intro l h
    have hl : l = m.reverse ++ [c] := by rw [← List.reverse_cons, h, List.reverse_reverse]
    subst hl
    rw [W.beL_snoc, List.length_append, List.length_singleton, leB_cons]
    have hc := UInt8.toNat_lt c
    have e1 : (W.beL m.reverse * 256 + c.toNat) % 256 = c.toNat := by omega
    have e2 : (W.beL m.reverse * 256 + c.toNat) / 256 = W.beL m.reverse := by omega
    rw [e1, e2, ih m.reverse (by simp)]
    simp
theorem put_be (bs : L8) (h : bs.length ≤ 8) : W.putBeS (W.beL bs) (bs.length : Int) = ⟨bs.toArray⟩ := by
  unfold W.putBeS
  rw [if_pos (by omega), Int.toNat_natCast, leB_beL bs.reverse bs rfl, List.reverse_reverse]
/-- The bytes of a .word's digits. -/
def bytesR (l : L8) : Option L8 := if 2 ≤ l.length ∧ l.length ≤ 8 ∧ l.length % 2 = 0 then rawL l else none
/-- What stands behind the first ": ", or all. -/
def cutL (s : L8) : L8 := if (Lib.cut s [58, 32]).2.2 then (Lib.cut s [58, 32]).2.1 else s
/-- A line's words, as bytes. -/
def codeR (s : L8) : Option L8 := if dotW.isPrefixOf (cutL s) then bytesR ((cutL s).drop 8) else (insR (cutL s)).map (fun i => (W.putBeS (encN i) 4).toList)
def hasW (s : L8) : Bool := match s with
  | [] => false
  | c :: _ => c != 35
/-- What lines with their numbers come to, behind bytes. -/
def asmN : List (Nat × L8) → L8 → L8 × Nat × Int
  | [], out => (out, 0, 0)
  | x :: t, out => if hasW x.2 then match codeR x.2 with
      | some b => asmN t (out ++ b)
      | none => ([], x.1, 110)
    else asmN t out
def numd : Nat → List L8 → List (Nat × L8)
  | _, [] => []
  | n, s :: t => (n, s) :: numd (n + 1) t
/-- A text, cut at each byte 10. -/
def spl : L8 → List L8
  | [] => [[]]
  | c :: t => if c = 10 then [] :: spl t else match spl t with
    | h :: r => (c :: h) :: r
    | [] => [[c]]
def lnsF : Nat → L8 → List L8
  | 0, _ => []
  | f + 1, l => if l = [] then [] else l.takeWhile (· != 10) :: lnsF f ((l.dropWhile (· != 10)).drop 1)
/-- A text's lines. -/
def linesL (l : L8) : List L8 := lnsF l.length l
/-- What Assemble tells. -/
def asmL (l : L8) : L8 × Nat × Int := asmN (numd 0 (linesL l)) []
theorem lnsF_nil : ∀ f, lnsF f [] = []
  | 0 => rfl
  | f + 1 => by simp [lnsF]
theorem spl_cut : ∀ l : L8, spl l = l.takeWhile (· != 10) :: (if l.dropWhile (· != 10) = [] then [] else spl ((l.dropWhile (· != 10)).drop 1))
  | [] => by simp [spl]
  | c :: t => by
    by_cases hc : c = 10
    · subst hc
      simp [spl]
    · have hn : (c != 10) = true := by simpa using hc
      rw [spl, if_neg hc, spl_cut t, List.takeWhile_cons, if_pos hn, List.dropWhile_cons, if_pos hn]
theorem asmN_tail (x : Nat × L8) {t u : List (Nat × L8)} (h : ∀ o, asmN t o = asmN u o) (o : L8) : asmN (x :: t) o = asmN (x :: u) o := by
  rw [asmN, asmN]
  cases hasW x.2 with
  | false => exact h o
  | true =>
    cases codeR x.2 with
    | none => rfl
    | some b => exact h _
theorem drop_less (l : L8) (h : l ≠ []) : ((l.dropWhile (· != 10)).drop 1).length < l.length := by
  have h1 := (List.dropWhile_suffix (l := l) (· != 10)).length_le
  have h2 : 0 < l.length := List.length_pos_iff.2 h
  rw [List.length_drop]
  omega
theorem asm_spl : ∀ (f : Nat) (l : L8) (n : Nat), l.length ≤ f → ∀ o, asmN (numd n (lnsF f l)) o = asmN (numd n (spl l)) o
  | 0, l, n, h, o => by
    have : l = [] := List.length_eq_zero_iff.1 (by omega)
    subst this
    simp [lnsF, spl, numd, asmN, hasW]
  | f + 1, l, n, h, o => by
    by_cases hl : l = []
    · subst hl
      simp [lnsF, spl, numd, asmN, hasW]
    · rw [lnsF, if_neg hl, spl_cut l, numd, numd]
      refine asmN_tail _ (fun o => ?_) o
      by_cases hd : l.dropWhile (· != 10) = []
      · rw [if_pos hd, hd]
        simp [lnsF_nil, numd]
      · rw [if_neg hd]
        exact asm_spl f _ (n + 1) (by have := drop_less l hl; omega) o
theorem asmL_spl (l : L8) : asmL l = asmN (numd 0 (spl l)) [] := asm_spl l.length l 0 (Nat.le_refl _) []
end Go.Proofs.YtglkkeelocdanaaDoor
