/- What is proved here: plain words for a text's lines and their words: what Assemble tells. -/
import Derived.Test.YtglkkeelocdanaaGreatDoorNv
namespace Go.Proofs.YtglkkeelocdanaaGreatDoor
open Go.RowKit
set_option linter.unusedVariables false
set_option linter.unusedSimpArgs false
set_option maxRecDepth 100000
/-- A hex digit's number. -/
def hvO (c : UInt8) : Option Nat := if 48 ≤ c.toNat ∧ c.toNat ≤ 57 then some (c.toNat - 48) else if 97 ≤ c.toNat ∧ c.toNat ≤ 102 then some (c.toNat - 87) else none
theorem hvO_lt {c : UInt8} {d : Nat} (h : hvO c = some d) : d < 16 := by
  unfold hvO at h
  split at h
  · injection h with h; omega
  · split at h
    · injection h with h; omega
    · cases h
/-- Hex digits, read behind a number. -/
def hexN : Nat → L8 → Option Nat
  | v, [] => some v
  | v, c :: t => match hvO c with
    | some d => hexN (v * 16 + d) t
    | none => none
/-- Hex digits, two a byte. -/
def rawL : L8 → Option L8
  | [] => some []
  | [_] => none
  | a :: b :: t => match hvO a with
    | none => none
    | some x => match hvO b with
      | none => none
      | some y => (rawL t).map (fun r => UInt8.ofNat (16 * x + y) :: r)
theorem raw_len : ∀ (n : Nat) (l bs : L8), l.length ≤ n → rawL l = some bs → l.length = 2 * bs.length
  | _, [], bs, _, h => by
    rw [rawL] at h; injection h with h; subst h; rfl
  | _, [_], bs, _, h => by
    rw [rawL] at h; cases h
  | 0, a :: b :: t, bs, hn, h => by simp at hn
  | n + 1, a :: b :: t, bs, hn, h => by
    rw [rawL] at h
    cases ha : hvO a with
    | none => rw [ha] at h; cases h
    | some x =>
      cases hb : hvO b with
      | none => rw [ha, hb] at h; cases h
      | some y =>
        rw [ha, hb] at h
        obtain ⟨r, h1, h2⟩ := Option.map_eq_some_iff.1 h
        have := raw_len n t r (by simp at hn; omega) h1
        rw [← h2]
        simp
        omega
theorem hex_raw : ∀ (n : Nat) (l : L8) (v : Nat), l.length ≤ n → l.length % 2 = 0 → hexN v l = (rawL l).map (fun bs => bs.foldl (fun v c => v * 256 + c.toNat) v)
  | _, [], v, _, _ => by simp [hexN, rawL]
  | _, [a], v, _, h => by simp at h
  | 0, a :: b :: t, v, hn, _ => by simp at hn
  | n + 1, a :: b :: t, v, hn, h2 => by
    rw [hexN, rawL]
    cases ha : hvO a with
    | none => rfl
    | some x =>
      simp only []
      rw [hexN]
      cases hb : hvO b with
      | none => rfl
      | some y =>
        simp only []
        rw [hex_raw n t _ (by simp at hn; omega) (by simp at h2; omega)]
        have hx := hvO_lt ha
        have hy := hvO_lt hb
        cases rawL t with
        | none => rfl
        | some r =>
          simp only [Option.map_some, List.foldl_cons]
          congr 2
          have e : (UInt8.ofNat (16 * x + y)).toNat = 16 * x + y := by simp; omega
          rw [e]
          omega
theorem leB_cons (v k : Nat) : W.leB v (k + 1) = UInt8.ofNat (v % 256) :: W.leB (v / 256) k := by
  induction k with
  | zero => simp [W.leB, W.byteAt]
  | succ k ih =>
    have e : W.byteAt v (k + 1) = W.byteAt (v / 256) k := by
      unfold W.byteAt
      rw [Nat.div_div_eq_div_mul, Nat.mul_add, Nat.pow_add, Nat.mul_comm]
    rw [W.leB, ih, W.leB, e]; simp
theorem leB_beL : ∀ (m l : L8), m = l.reverse → W.leB (W.beL l) l.length = m := by
  intro m
  induction m with
  | nil => intro l h; have : l = [] := by simpa using h.symm
           subst this; rfl
  | cons c m ih =>
    intro l h
    have hl : l = m.reverse ++ [c] := by rw [← List.reverse_cons, h, List.reverse_reverse]
    subst hl
    rw [W.beL_snoc, List.length_append, List.length_singleton, leB_cons]
    have hc := UInt8.toNat_lt c
    have e1 : (W.beL m.reverse * 256 + c.toNat) % 256 = c.toNat := by omega
    have e2 : (W.beL m.reverse * 256 + c.toNat) / 256 = W.beL m.reverse := by omega
    rw [e1, e2, ih m.reverse (by simp)]
    simp
theorem put_be (bs : L8) (h : bs.length ≤ 8) : W.putBeS (W.beL bs) (bs.length : Int) = ⟨bs.toArray⟩ := by
  unfold W.putBeS
  rw [if_pos (by omega), Int.toNat_natCast, leB_beL bs.reverse bs rfl, List.reverse_reverse]
/-- The bytes of a .word's digits. -/
def bytesR (l : L8) : Option L8 := if 2 ≤ l.length ∧ l.length ≤ 8 ∧ l.length % 2 = 0 then rawL l else none
/-- What stands behind the first ": ", or all. -/
def cutL (s : L8) : L8 := if (Lib.cut s [58, 32]).2.2 then (Lib.cut s [58, 32]).2.1 else s
/-- A line's words, as bytes. -/
def codeR (s : L8) : Option L8 := if dotW.isPrefixOf (cutL s) then bytesR ((cutL s).drop 8) else (insR (cutL s)).map (fun i => (W.putBeS (encN i) 4).toList)
def hasW (s : L8) : Bool := match s with
  | [] => false
  | c :: _ => c != 35
/-- What lines with their numbers come to, behind bytes. -/
def asmN : List (Nat × L8) → L8 → L8 × Nat × Int
  | [], out => (out, 0, 0)
  | x :: t, out => if hasW x.2 then match codeR x.2 with
      | some b => asmN t (out ++ b)
      | none => ([], x.1, 110)
    else asmN t out
def numd : Nat → List L8 → List (Nat × L8)
  | _, [] => []
  | n, s :: t => (n, s) :: numd (n + 1) t
/-- A text, cut at each byte 10. -/
def spl : L8 → List L8
  | [] => [[]]
  | c :: t => if c = 10 then [] :: spl t else match spl t with
    | h :: r => (c :: h) :: r
    | [] => [[c]]
def lnsF : Nat → L8 → List L8
  | 0, _ => []
  | f + 1, l => if l = [] then [] else l.takeWhile (· != 10) :: lnsF f ((l.dropWhile (· != 10)).drop 1)
/-- A text's lines. -/
def linesL (l : L8) : List L8 := lnsF l.length l
/-- What Assemble tells. -/
def asmL (l : L8) : L8 × Nat × Int := asmN (numd 0 (linesL l)) []
theorem lnsF_nil : ∀ f, lnsF f [] = []
  | 0 => rfl
  | f + 1 => by simp [lnsF]
theorem spl_cut : ∀ l : L8, spl l = l.takeWhile (· != 10) :: (if l.dropWhile (· != 10) = [] then [] else spl ((l.dropWhile (· != 10)).drop 1))
  | [] => by simp [spl]
  | c :: t => by
    by_cases hc : c = 10
    · subst hc
      simp [spl]
    · have hn : (c != 10) = true := by simpa using hc
      rw [spl, if_neg hc, spl_cut t, List.takeWhile_cons, if_pos hn, List.dropWhile_cons, if_pos hn]
theorem asmN_tail (x : Nat × L8) {t u : List (Nat × L8)} (h : ∀ o, asmN t o = asmN u o) (o : L8) : asmN (x :: t) o = asmN (x :: u) o := by
  rw [asmN, asmN]
  cases hasW x.2 with
  | false => exact h o
  | true =>
    cases codeR x.2 with
    | none => rfl
    | some b => exact h _
theorem drop_less (l : L8) (h : l ≠ []) : ((l.dropWhile (· != 10)).drop 1).length < l.length := by
  have h1 := (List.dropWhile_suffix (l := l) (· != 10)).length_le
  have h2 : 0 < l.length := List.length_pos_iff.2 h
  rw [List.length_drop]
  omega
theorem asm_spl : ∀ (f : Nat) (l : L8) (n : Nat), l.length ≤ f → ∀ o, asmN (numd n (lnsF f l)) o = asmN (numd n (spl l)) o
  | 0, l, n, h, o => by
    have : l = [] := List.length_eq_zero_iff.1 (by omega)
    subst this
    simp [lnsF, spl, numd, asmN, hasW]
  | f + 1, l, n, h, o => by
    by_cases hl : l = []
    · subst hl
      simp [lnsF, spl, numd, asmN, hasW]
    · rw [lnsF, if_neg hl, spl_cut l, numd, numd]
      refine asmN_tail _ (fun o => ?_) o
      by_cases hd : l.dropWhile (· != 10) = []
      · rw [if_pos hd, hd]
        simp [lnsF_nil, numd]
      · rw [if_neg hd]
        exact asm_spl f _ (n + 1) (by have := drop_less l hl; omega) o
theorem spl_line : ∀ (x r : L8), (∀ c ∈ x, c ≠ 10) → spl (x ++ 10 :: r) = x :: spl r
  | [], r, _ => by simp [spl]
  | c :: t, r, h => by
    rw [List.cons_append, spl, if_neg (h c (by simp)), spl_line t r (fun d hd => h d (by simp [hd]))]
theorem asmL_spl (l : L8) : asmL l = asmN (numd 0 (spl l)) [] := asm_spl l.length l 0 (Nat.le_refl _) []
end Go.Proofs.YtglkkeelocdanaaGreatDoor
namespace Go.Proofs.YtglkkeelocdanaaGreatDoor
open Go.RowKit
set_option linter.unusedVariables false
set_option linter.unusedSimpArgs false
set_option maxRecDepth 100000
theorem hv_hx (n : Nat) (h : n < 16) : hvO (hxD n) = some n := by
  have key : ∀ k : Fin 16, hvO (hxD k.val) = some k.val := by decide +kernel
  exact key ⟨n, h⟩
theorem hx_plain (n : Nat) (h : n < 16) : hxD n ≠ 10 ∧ hxD n ≠ 58 ∧ hxD n ≠ 35 := by
  have key : ∀ k : Fin 16, hxD k.val ≠ 10 ∧ hxD k.val ≠ 58 ∧ hxD k.val ≠ 35 := by decide +kernel
  exact key ⟨n, h⟩
theorem raw_hex : ∀ s : L8, rawL (hexL s) = some s
  | [] => rfl
  | c :: t => by
    have e : hexL (c :: t) = hxD (c.toNat / 16) :: hxD (c.toNat % 16) :: hexL t := rfl
    have hc := UInt8.toNat_lt c
    rw [e, rawL, hv_hx _ (by omega), hv_hx _ (by omega), raw_hex t]
    simp only [Option.map_some]
    congr 2
    rw [show 16 * (c.toNat / 16) + c.toNat % 16 = c.toNat by omega]
    exact UInt8.ofNat_toNat
theorem hex_plain (s : L8) : ∀ c ∈ hexL s, c ≠ 10 ∧ c ≠ 58 ∧ c ≠ 35 := by
  intro c hc
  unfold hexL at hc
  obtain ⟨b, hb, h⟩ := List.mem_flatMap.1 hc
  have hl := UInt8.toNat_lt b
  rcases List.mem_cons.1 h with rfl | h
  · exact hx_plain _ (by omega)
  · rw [List.mem_singleton] at h
    subst h
    exact hx_plain _ (by omega)
theorem num_plain {c : UInt8} (h : isNum c = true) : c ≠ 10 := by
  rintro rfl
  revert h
  decide
theorem pat_plain (n f : L8) (b : Bool) : ∀ c ∈ patL n f b, c ≠ 10 := by
  have h1 : ∀ (c : Bool) (x y : L8), (∀ d ∈ x, d ≠ 10) → (∀ d ∈ y, d ≠ 10) → ∀ d ∈ (if c = true then x else y), d ≠ 10 := fun c x y hx hy => by cases c; exact hy; exact hx
  unfold patL
  iterate 21 (refine h1 _ _ _ (by first | decide | (cases b <;> decide)) ?_)
  decide
theorem told_plain (i : In) (x : L8) (hx : ∀ c ∈ x, c ≠ 10) : ∀ c ∈ toldL i x, c ≠ 10 := by
  unfold toldL
  repeat' split
  all_goals first | exact hx | exact fun c hc => num_plain (itoa_num _ c hc)
theorem rows_plain : rowsL.all (fun r => r.name.toList.all (fun c => c != 10)) = true := by decide +kernel
theorem rows_dot : rowsL.all (fun r => match r.name.toList with | [] => false | c :: _ => c != 46) = true := by decide +kernel
theorem name_mem {i : In} (h : isIns i = true) : ∃ r ∈ rowsL, r.name = i.name := by
  obtain ⟨a, ha, p⟩ := in_p h
  exact ⟨rowsL[a], List.getElem_mem ha, p.name.symm⟩
theorem line_plain {i : In} (h : isIns i = true) : ∀ c ∈ lineL i, c ≠ 10 := by
  intro c hc
  unfold lineL at hc
  rw [if_pos h] at hc
  rcases List.mem_append.1 hc with hc | hc
  · obtain ⟨r, hr, hn⟩ := name_mem h
    have := List.all_eq_true.1 rows_plain r hr
    rw [hn] at this
    have := List.all_eq_true.1 this c hc
    simpa using this
  · unfold tailL at hc
    obtain ⟨x, hx, hc⟩ := List.mem_flatMap.1 hc
    refine told_plain i x (fun d hd => ?_) c hc
    have hf : d ∈ (partsL (patL i.name.toList (formL8 i.name) (i.imm == 0))).flatten := List.mem_flatten.2 ⟨x, hx, hd⟩
    rw [partsL, ptR_flat] at hf
    exact pat_plain _ _ _ d (by simpa using hf)
theorem line_dot {i : In} (h : isIns i = true) : dotW.isPrefixOf (lineL i) = false := by
  obtain ⟨r, hr, hn⟩ := name_mem h
  have := List.all_eq_true.1 rows_dot r hr
  rw [hn] at this
  unfold lineL
  rw [if_pos h]
  cases hl : i.name.toList with
  | nil => rw [hl] at this; cases this
  | cons c t =>
    rw [hl] at this
    have hc : c ≠ 46 := by simpa using this
    show ([46, 119, 111, 114, 100, 32, 48, 120] : L8).isPrefixOf (c :: (t ++ tailL i)) = false
    rw [List.isPrefixOf_cons_cons]
    have : ((46 : UInt8) == c) = false := by simpa using fun e => hc e.symm
    rw [this]; rfl
theorem index_plain : ∀ (h r : L8), (∀ c ∈ h, c ≠ 58) → Lib.index (h ++ 58 :: 32 :: r) [58, 32] = (h.length : Int)
  | [], r, _ => by simp [Lib.index]
  | c :: t, r, hh => by
    have ih := index_plain t r (fun d hd => hh d (by simp [hd]))
    have hc : c ≠ 58 := hh c (by simp)
    have hp : ([58, 32] : L8).isPrefixOf (c :: (t ++ 58 :: 32 :: r)) = false := by
      rw [List.isPrefixOf_cons_cons]
      have : ((58 : UInt8) == c) = false := by simpa using fun e => hc e.symm
      rw [this]; rfl
    rw [List.cons_append, Lib.index, hp, ih, if_neg (by decide), if_neg (by simp)]
    simp
theorem cut_plain (h r : L8) (hh : ∀ c ∈ h, c ≠ 58) : cutL (h ++ 58 :: 32 :: r) = r := by
  have hi := index_plain h r hh
  have e : Lib.cut (h ++ 58 :: 32 :: r) [58, 32] = (h, r, true) := by
    unfold Lib.cut
    rw [hi, if_pos (by omega), Int.toNat_natCast]
    congr 1
    · simp
    · congr 1
      rw [show h.length + ([58, 32] : L8).length = (h ++ [58, 32]).length by simp, show h ++ 58 :: 32 :: r = (h ++ [58, 32]) ++ r by simp]
      exact List.drop_left
  unfold cutL
  rw [e]
  rfl
/-- A listing's line, without its end. -/
def bdL (l : L8) (a i : Nat) : L8 := hexL (W.putBeS ((a + 4 * i) % 4294967296) 4).toList ++ 58 :: 32 :: wdL ⟨(ck l i).toArray⟩
theorem ln_bd (l : L8) (a i : Nat) : lnL l a i = bdL l a i ++ [10] := by unfold lnL bdL; simp
theorem wd_plain (s : ByteArray) : ∀ c ∈ wdL s, c ≠ 10 := by
  intro c hc
  unfold wdL at hc
  split at hc
  · rename_i h
    rw [Bool.and_eq_true] at h
    exact line_plain (back1 h.1).1 c hc
  · rcases List.mem_append.1 hc with hc | hc
    · have key : ∀ c ∈ dotW, c ≠ 10 := by decide
      exact key c hc
    · exact (hex_plain _ c hc).1
theorem bd_plain (l : L8) (a i : Nat) : ∀ c ∈ bdL l a i, c ≠ 10 := by
  intro c hc
  unfold bdL at hc
  rcases List.mem_append.1 hc with hc | hc
  · exact (hex_plain _ c hc).1
  · rcases List.mem_cons.1 hc with rfl | hc
    · decide
    · rcases List.mem_cons.1 hc with rfl | hc
      · decide
      · exact wd_plain _ c hc
theorem bd_has (l : L8) (a i : Nat) : hasW (bdL l a i) = true := by
  unfold bdL
  cases hh : hexL (W.putBeS ((a + 4 * i) % 4294967296) 4).toList with
  | nil =>
    have h2 : (hexL (W.putBeS ((a + 4 * i) % 4294967296) 4).toList).length = 8 := by rw [hex_len, bt_len, pb_len]
    rw [hh] at h2
    cases h2
  | cons c t =>
    have := hex_plain (W.putBeS ((a + 4 * i) % 4294967296) 4).toList c (by rw [hh]; simp)
    show (c != 35) = true
    simpa using this.2.2
theorem bd_code (l : L8) (a i : Nat) (hi : 4 * i < l.length) : codeR (bdL l a i) = some (ck l i) := by
  have hcl := ck_len l i
  have hc0 : 1 ≤ (ck l i).length := by unfold ck; simp; omega
  unfold codeR
  rw [show cutL (bdL l a i) = wdL ⟨(ck l i).toArray⟩ from cut_plain _ _ (fun c hc => (hex_plain _ c hc).2.1)]
  obtain ⟨s, hs⟩ : ∃ s, s = ck l i := ⟨_, rfl⟩
  rw [← hs] at hcl hc0 ⊢
  have hsz : (⟨s.toArray⟩ : ByteArray).size = s.length := by show Array.size _ = _; simp
  unfold wdL
  split
  · rename_i h
    rw [Bool.and_eq_true] at h
    obtain ⟨h1, h2⟩ := h
    have h4 : s.length = 4 := by rw [hsz] at h2; have := of_decide_eq_true h2; omega
    obtain ⟨b1, b2⟩ := back1 h1
    rw [line_dot b1, if_neg (by decide), ins_line b1, Option.map_some, b2]
    have hw : wdN ⟨s.toArray⟩ = W.beL s := by
      unfold wdN W.beS
      rw [if_pos (by rw [hsz]; omega)]
      have h5 := W.beL_lt s
      rw [h4] at h5
      exact Nat.mod_eq_of_lt h5
    rw [hw]
    have := put_be s (by omega)
    rw [h4] at this
    rw [show (4 : Int) = ((4 : Nat) : Int) from rfl, this, bal]
  · rw [bal]
    have hp : dotW.isPrefixOf (dotW ++ hexL s) = true := by rw [List.isPrefixOf_iff_prefix]; exact List.prefix_append _ _
    have hl := hex_len s
    rw [hp, if_pos rfl, show (dotW ++ hexL s).drop 8 = hexL s from List.drop_left (l₁ := dotW)]
    unfold bytesR
    rw [if_pos (by omega), raw_hex]
theorem asm_body (l : L8) (a : Nat) : ∀ (k n : Nat) (o : L8), n + k = ckN l → asmN (numd n (spl ((List.range' n k).flatMap (lnL l a)))) o = (o ++ (List.range' n k).flatMap (ck l), 0, 0)
  | 0, n, o, _ => by simp [spl, numd, asmN, hasW]
  | k + 1, n, o, h => by
    rw [List.range'_succ, List.flatMap_cons, List.flatMap_cons, ln_bd, List.append_assoc, List.singleton_append, spl_line _ _ (bd_plain l a n), numd, asmN, bd_has, if_pos rfl, bd_code l a n (by unfold ckN at h; omega)]
    simp only []
    rw [asm_body l a k (n + 1) _ (by omega), List.append_assoc]
theorem cks_all (l : L8) : ∀ n, 4 * n ≤ l.length + 3 → (List.range n).flatMap (ck l) = l.take (4 * n)
  | 0, _ => by simp
  | n + 1, h => by
    rw [List.range_succ, List.flatMap_append, cks_all l n (by omega)]
    simp only [List.flatMap_cons, List.flatMap_nil, List.append_nil]
    unfold ck
    rw [show 4 * (n + 1) = 4 * n + 4 by omega]
    have := List.take_append_drop (4 * n) (l.take (4 * n + 4))
    rw [List.take_take, Nat.min_eq_left (by omega)] at this
    exact this
theorem asm_back (l : L8) (a : Nat) : asmL (lstL l a) = (l, 0, 0) := by
  rw [asmL_spl]
  unfold lstL outL
  have h := asm_body l a (ckN l) 0 [] (by omega)
  rw [← List.range_eq_range'] at h
  rw [h, cks_all l (ckN l) (by unfold ckN; omega), List.nil_append, List.take_of_length_le (by unfold ckN; omega)]
theorem line_nil {i : In} (h : isIns i = true) : lineL i ≠ [] := by
  intro e
  have := ins_line h
  rw [e] at this
  unfold insR at this
  rw [show nameOf ([] : L8) = [] from rfl, if_pos form_nil] at this
  cases this
end Go.Proofs.YtglkkeelocdanaaGreatDoor
