/- What is proved here: in plain words: a table's symbols are those that it was made of; a name is found where its first symbol is; the document's way to read is the same. -/
import Derived.Test.YtmkfgoacbehhcaaNa
namespace Go.Proofs.Ytmkfgoacbehhcaa
open Go.RowKit
set_option linter.unusedVariables false
set_option linter.unusedSimpArgs false
set_option maxRecDepth 100000
/-- A row's parts. -/
theorem b1_is (v : Nat) (h : v < 256) : bN 1 v = [UInt8.ofNat v] := by
  have : v % 256 = v := by omega
  simp [bN, W.leB, W.byteAt, this]
theorem b2_is (v : Nat) (h : v < 256) : bN 2 v = [0, UInt8.ofNat v] := by
  have e1 : v / 2 ^ (8 * 1) % 256 = 0 := by omega
  have e2 : v % 256 = v := by omega
  simp [bN, W.leB, W.byteAt, e1, e2]
theorem take_app (a b : L8) (n : Nat) (h : a.length = n) : (a ++ b).take n = a := by subst h; simp
theorem drop_app (a b : L8) (n : Nat) (h : a.length = n) : (a ++ b).drop n = b := by subst h; simp
theorem drop_app2 (a b : L8) (n m : Nat) (h : a.length = n) : (a ++ b).drop (n + m) = b.drop m := by subst h; rw [← List.drop_drop]; simp
theorem row_wd0 (s : Sy) (o : Nat) (ho : o < 4294967296) : wd (rowB s o) 0 = o := by
  unfold wd rowB
  rw [List.drop_zero, take_app _ _ 4 (bN_len 4 o), be4 o ho]
theorem row_wd4 (s : Sy) (o : Nat) (h : s.value < 4294967296) : wd (rowB s o) 4 = s.value := by
  unfold wd rowB
  rw [drop_app _ _ 4 (bN_len 4 o), take_app _ _ 4 (bN_len 4 _), be4 _ h]
theorem row_wd8 (s : Sy) (o : Nat) (h : s.size < 4294967296) : wd (rowB s o) 8 = s.size := by
  unfold wd rowB
  rw [show (8 : Nat) = 4 + 4 from rfl, drop_app2 _ _ 4 4 (bN_len 4 o), drop_app _ _ 4 (bN_len 4 _), take_app _ _ 4 (bN_len 4 _), be4 _ h]
theorem row_d12 (s : Sy) (o : Nat) : (rowB s o).drop 12 = bN 1 (s.bind.toNat * 16) ++ (bN 1 0 ++ bN 2 s.part.toNat) := by
  unfold rowB
  rw [show (12 : Nat) = 4 + (4 + 4) from rfl, drop_app2 _ _ 4 (4 + 4) (bN_len 4 o), drop_app2 _ _ 4 4 (bN_len 4 _), drop_app _ _ 4 (bN_len 4 _)]
theorem row_h12 (s : Sy) (o : Nat) (h : s.bind.toNat ≤ 15) : (((rowB s o).drop 12).headD 0).toNat / 16 = s.bind.toNat := by
  rw [row_d12, b1_is _ (by omega)]
  simp
  omega
theorem row_h14 (s : Sy) (o : Nat) (h : s.part.toNat < 65536) : hf (rowB s o) 14 = s.part.toNat := by
  unfold hf
  have e : (rowB s o).drop 14 = bN 2 s.part.toNat := by
    rw [show (14 : Nat) = 12 + 2 from rfl, ← List.drop_drop, row_d12, show (2 : Nat) = 1 + 1 from rfl, drop_app2 _ _ 1 1 (bN_len 1 _), drop_app _ _ 1 (bN_len 1 _)]
  rw [e, List.take_of_length_le (by rw [bN_len]; omega), be2 _ h]
theorem sym_row (s : Sy) (o : Nat) (strs : L8) (hf : FitY s) (hv : s.value < 4294967296) (hz : s.size < 4294967296) (ho : o < 4294967296) (hn : nameAt strs o = s.name) : symN strs (rowB s o) = s := by
  obtain ⟨h1, h2, h3, h4, h5, h6, h7⟩ := hf
  unfold symN
  rw [row_wd0 s o ho, row_wd4 s o hv, row_wd8 s o hz, row_h12 s o (by omega), row_h14 s o (by omega), hn]
  exact Sy.ext' rfl rfl rfl (by simp only; omega) (by simp only; omega)
theorem tw_name (n r : L8) (h : 0 ∉ n) : (n ++ 0 :: r).takeWhile (· != 0) = n := by
  induction n with
  | nil => simp
  | cons c t ih =>
    simp only [List.mem_cons, not_or] at h
    have h1 : (c != 0) = true := by simpa using fun e => h.1 e.symm
    rw [List.cons_append, List.takeWhile_cons, if_pos h1, ih h.2]
theorem rows_at (l : List Sy) : ∀ (o i : Nat) (h : i < l.length), ((rowsG o l).drop (16 * i)).take 16 = rowB l[i] (o + ((l.take i).flatMap nmB).length) := by
  induction l with
  | nil => intro o i h; simp at h
  | cons a t ih =>
    intro o i h
    rw [rowsG]
    match i, h with
    | 0, _ => rw [Nat.mul_zero, List.drop_zero, take_app _ _ 16 (rowB_len _ _)]; rfl
    | i + 1, h =>
      rw [show 16 * (i + 1) = 16 + 16 * i by omega, drop_app2 _ _ 16 _ (rowB_len _ _), ih _ i (by simpa using h)]
      simp only [List.getElem_cons_succ, List.take_succ_cons, List.flatMap_cons, List.length_append]
      congr 1
      simp only [nmB, List.length_append, List.length_cons, List.length_nil]
      omega
theorem syms_at (l : List Sy) (i : Nat) (h : i < l.length) : rowAt (symsL l) (i + 1) = rowB l[i] (strsL (l.take i)).length := by
  unfold rowAt symsL
  rw [show 16 * (i + 1) = 16 + 16 * i by omega, drop_app2 zero16 _ 16 _ rfl, rows_at l 1 i h, strs_len]
theorem strs_at (l : List Sy) (i : Nat) (h : i < l.length) : ∃ r, (strsL l).drop (strsL (l.take i)).length = l[i].name ++ 0 :: r := by
  have e : strsL l = strsL (l.take i) ++ (l[i].name ++ 0 :: (l.drop (i + 1)).flatMap nmB) := by
    have hl : l = l.take i ++ l[i] :: l.drop (i + 1) := by rw [← List.drop_eq_getElem_cons h, List.take_append_drop]
    have h1 : l.flatMap nmB = (l.take i ++ l[i] :: l.drop (i + 1)).flatMap nmB := congrArg (List.flatMap nmB) hl
    unfold strsL
    rw [h1, List.flatMap_append, List.flatMap_cons]
    simp [nmB, List.append_assoc]
  exact ⟨_, by rw [e]; exact drop_app _ _ _ rfl⟩
theorem strs_le (l : List Sy) (h : ∀ s ∈ l, FitY s) (hl : l.length ≤ 200) (i : Nat) : (strsL (l.take i)).length ≤ 6401 := by
  have h1 := nms_le (l.take i) (fun s hs => h s (List.mem_of_mem_take hs))
  have h2 : (l.take i).length ≤ 200 := by simp; omega
  rw [strs_len]
  omega
theorem ends_at (l : List Sy) (i : Nat) (h : i < l.length) : endsAt (strsL l) (strsL (l.take i)).length = true := by
  obtain ⟨r, hr⟩ := strs_at l i h
  unfold endsAt
  rw [hr]
  have : (strsL (l.take i)).length < (strsL l).length := by
    have := congrArg List.length hr
    rw [List.length_drop] at this
    simp only [List.length_append, List.length_cons] at this
    omega
  rw [decide_eq_true this]
  simp
theorem row_back (l : List Sy) (hb : ∀ s ∈ l, s.Bd) (hfit : ∀ s ∈ l, FitY s) (hl : l.length ≤ 200) (i : Nat) (h : i < l.length) : symN (strsL l) (rowAt (symsL l) (i + 1)) = l[i] ∧ rowOk (strsL l) (rowAt (symsL l) (i + 1)) = true := by
  have hm := List.getElem_mem h
  have ho : (strsL (l.take i)).length < 4294967296 := by have := strs_le l hfit hl i; omega
  obtain ⟨r, hr⟩ := strs_at l i h
  have hn : nameAt (strsL l) (strsL (l.take i)).length = l[i].name := by
    unfold nameAt
    rw [hr, tw_name _ _ (hfit _ hm).2.2.1]
  have e := sym_row l[i] _ (strsL l) (hfit _ hm) (hb _ hm).v (hb _ hm).z ho hn
  rw [syms_at l i h]
  refine ⟨e, ?_⟩
  unfold rowOk
  rw [e, row_wd0 _ _ ho, ends_at l i h]
  simp
theorem read_write (l : List Sy) (hb : ∀ s ∈ l, s.Bd) (hf : fitL l = true) (ways : Nat) : readE ⟨symsL l, strsL l, hashB l ways⟩ = true ∧ readL ⟨symsL l, strsL l, hashB l ways⟩ = l := by
  obtain ⟨hl, hfit⟩ := fitL_parts hf
  have hc : cntN ⟨symsL l, strsL l, hashB l ways⟩ = l.length := by
    show (symsL l).length / 16 - 1 = _
    rw [syms_len]; omega
  have hs : symsAt ⟨symsL l, strsL l, hashB l ways⟩ l.length = l := by
    unfold symsAt
    apply List.ext_getElem
    · simp
    · intro i h1 h2
      rw [List.getElem_map, List.getElem_range]
      exact (row_back l hb hfit hl i h2).1
  have h : readE ⟨symsL l, strsL l, hashB l ways⟩ = true := by
    unfold readE
    rw [hc, hs, hf, Bool.and_true]
    have h1 : lenOk ⟨symsL l, strsL l, hashB l ways⟩ = true := by
      unfold lenOk
      simp only [syms_len, decide_eq_true_eq]
      omega
    have h2 : ((symsL l).take 16 == zero16) = true := by
      unfold symsL
      rw [take_app _ _ 16 rfl]
      exact beq_self_eq_true _
    have h3 : rowsOk ⟨symsL l, strsL l, hashB l ways⟩ l.length = true := by
      unfold rowsOk
      rw [List.all_eq_true]
      intro i hi
      exact (row_back l hb hfit hl i (List.mem_range.1 hi)).2
    rw [h1, h2, h3]
    rfl
  refine ⟨h, ?_⟩
  unfold readL
  rw [if_pos h, hc, hs]
/-- Numbers of a text. -/
theorem flat4_len (xs : List Nat) : (xs.flatMap (bN 4)).length = 4 * xs.length := by
  induction xs with
  | nil => rfl
  | cons x t ih => rw [List.flatMap_cons, List.length_append, bN_len, ih, List.length_cons]; omega
theorem flat4_at (xs : List Nat) : ∀ (k : Nat) (h : k < xs.length), ((xs.flatMap (bN 4)).drop (4 * k)).take 4 = bN 4 xs[k] := by
  induction xs with
  | nil => intro k h; simp at h
  | cons x t ih =>
    intro k h
    rw [List.flatMap_cons]
    match k, h with
    | 0, _ => rw [Nat.mul_zero, List.drop_zero, take_app _ _ 4 (bN_len 4 _)]; rfl
    | k + 1, h => rw [show 4 * (k + 1) = 4 + 4 * k by omega, drop_app2 _ _ 4 _ (bN_len 4 _), ih k (by simpa using h)]; rfl
theorem wAt_flat (xs : List Nat) (hx : ∀ x ∈ xs, x < 4294967296) (k : Nat) (h : k < xs.length) : wAt (xs.flatMap (bN 4)) k = xs[k] := by
  unfold wAt
  rw [if_pos (by rw [flat4_len]; omega)]
  unfold wd
  rw [flat4_at xs k h, be4 _ (hx _ (List.getElem_mem h))]
theorem hash_0 (l : List Sy) (ways : Nat) (hw : ways ≤ 64) (hl : l.length ≤ 200) : wAt (hashB l ways) 0 = ways := by
  have hx := nums_lt l ways 0 (by omega) (by omega) (by omega)
  unfold hashB
  rw [wAt_flat _ hx 0 (by rw [nums_len]; omega)]
  rfl
theorem hash_first (l : List Sy) (ways w : Nat) (hw : ways ≤ 64) (hl : l.length ≤ 200) (h : w < ways) : wAt (hashB l ways) (2 + w) = nxt (wayN l ways) l.length w 0 := by
  have hx := nums_lt l ways 0 (by omega) (by omega) (by omega)
  unfold hashB
  rw [wAt_flat _ hx (2 + w) (by rw [nums_len]; omega)]
  unfold numsAt
  rw [List.getElem_append_right (by simp)]
  simp only [List.length_cons, List.length_nil, show 2 + w - (0 + 1 + 1) = w by omega]
  rw [List.getElem_append_left (by rw [first_len]; exact h)]
  simp only [firstL, List.getElem_map, List.getElem_range]
theorem hash_next (l : List Sy) (ways n : Nat) (hw : ways ≤ 64) (hl : l.length ≤ 200) (h0 : 0 < n) (h : n ≤ l.length) : wAt (hashB l ways) (2 + (ways + n)) = nxt (wayN l ways) l.length (wayN l ways n) n := by
  have hx := nums_lt l ways 0 (by omega) (by omega) (by omega)
  unfold hashB
  rw [wAt_flat _ hx (2 + (ways + n)) (by rw [nums_len]; omega)]
  unfold numsAt
  rw [List.getElem_append_right (by simp)]
  simp only [List.length_cons, List.length_nil, show 2 + (ways + n) - (0 + 1 + 1) = ways + n by omega]
  rw [List.getElem_append_right (by rw [first_len]; omega)]
  simp only [first_len, Nat.add_sub_cancel_left, nextL, List.getElem_map, List.getElem_range]
  rw [if_pos h0]
/-- The first one behind a place. -/
def pN (p : Nat → Bool) (n : Nat) : Nat := if p n = true then 1 else 0
theorem go_chain (hs : L8) (ways : Nat) (l : List Sy) (p : Nat → Bool) (w : Nat) (hp : ∀ n, 0 < n → n ≤ l.length → p n = true → wayN l ways n = w)
    (hn : ∀ n, 0 < n → n ≤ l.length → wAt hs (2 + (ways + n)) = nxt (wayN l ways) l.length (wayN l ways n) n) :
    ∀ k a, a ≤ l.length → l.length - a = k → ∀ f o, k < f → wAt hs (2 + o) = nxt (wayN l ways) l.length w a → goF hs ways (l.length + 1) p f o = nxt (pN p) l.length 1 a := by
  intro k
  induction k with
  | zero =>
    intro a ha hk f o hf ho
    obtain rfl : a = l.length := by omega
    obtain ⟨g, rfl⟩ : ∃ g, f = g + 1 := ⟨f - 1, by omega⟩
    rw [nxt_end] at ho
    rw [goF, ho, nxt_end, if_pos (Or.inl rfl)]
  | succ k ih =>
    intro a ha hk f o hf ho
    have hlt : a < l.length := by omega
    rw [nxt_step _ _ _ _ hlt] at ho
    rw [nxt_step (pN p) _ _ _ hlt]
    by_cases hw : wayN l ways (a + 1) = w
    · rw [if_pos hw] at ho
      obtain ⟨g, rfl⟩ : ∃ g, f = g + 1 := ⟨f - 1, by omega⟩
      rw [goF, ho, if_neg (by omega)]
      unfold pN
      by_cases hpp : p (a + 1) = true
      · rw [if_pos hpp, if_pos hpp, if_pos rfl]
      · rw [if_neg hpp, if_neg hpp, if_neg (by decide)]
        exact ih (a + 1) (by omega) (by omega) g _ (by omega) (by rw [hn (a + 1) (by omega) (by omega), hw])
    · rw [if_neg hw] at ho
      have hpp : ¬ p (a + 1) = true := fun h => hw (hp _ (by omega) (by omega) h)
      unfold pN
      rw [if_neg hpp, if_neg (by decide)]
      exact ih (a + 1) (by omega) (by omega) f o (by omega) ho
theorem is_way (l : List Sy) (ways : Nat) (name : L8) (n : Nat) (h0 : 0 < n) (h : n ≤ l.length) (hp : isIt l name n = true) : wayN l ways n = hashL name % ways := by
  unfold isIt at hp
  unfold wayN
  rw [List.getElem?_eq_getElem (show n - 1 < l.length by omega)] at hp ⊢
  simp only [Bool.and_eq_true, beq_iff_eq] at hp
  simp only [Option.getD_some, hp.1]
theorem find_write (l : List Sy) (hb : ∀ s ∈ l, s.Bd) (hf : fitL l = true) (ways : Nat) (h1 : 1 ≤ ways) (h2 : ways ≤ 64) (name : L8) : findN ⟨symsL l, strsL l, hashB l ways⟩ name = nxt (pN (isIt l name)) l.length 1 0 := by
  obtain ⟨hl, hfit⟩ := fitL_parts hf
  obtain ⟨r1, r2⟩ := read_write l hb hf ways
  unfold findN
  rw [if_pos r1, r2]
  unfold findIn
  simp only [hash_0 l ways h2 hl]
  rw [if_neg (by omega)]
  have hw : hashL name % ways < ways := Nat.mod_lt _ (by omega)
  exact go_chain (hashB l ways) ways l (isIt l name) (hashL name % ways) (fun n a b c => is_way l ways name n a b c) (fun n a b => hash_next l ways n h2 hl a b) l.length 0 (by omega) (by omega) _ _ (by omega) (hash_first l ways _ h2 hl hw)
/-- What the first one is. -/
theorem nxt_found (p : Nat → Bool) (len : Nat) : ∀ k a, a ≤ len → len - a = k → (∀ i, a < i → i ≤ len → p i = false) ∧ nxt (pN p) len 1 a = 0 ∨ ∃ n, a < n ∧ n ≤ len ∧ p n = true ∧ (∀ i, a < i → i < n → p i = false) ∧ nxt (pN p) len 1 a = n := by
  intro k
  induction k with
  | zero => intro a ha hk; left; exact ⟨fun i _ _ => by omega, by rw [show a = len by omega, nxt_end]⟩
  | succ k ih =>
    intro a ha hk
    have hlt : a < len := by omega
    rw [nxt_step _ _ _ _ hlt]
    cases hp : p (a + 1) with
    | true =>
      have e : pN p (a + 1) = 1 := by unfold pN; rw [hp]; rfl
      right; exact ⟨a + 1, by omega, by omega, hp, fun i _ _ => by omega, by rw [if_pos e]⟩
    | false =>
      have e : ¬ pN p (a + 1) = 1 := by unfold pN; rw [hp]; decide
      rw [if_neg e]
      rcases ih (a + 1) (by omega) (by omega) with ⟨h1, h2⟩ | ⟨n, h1, h2, h3, h4, h5⟩
      · left
        refine ⟨fun i hi hj => ?_, h2⟩
        by_cases e : i = a + 1
        · rw [e]; exact hp
        · exact h1 i (by omega) hj
      · right
        refine ⟨n, by omega, h2, h3, fun i hi hj => ?_, h5⟩
        by_cases e : i = a + 1
        · rw [e]; exact hp
        · exact h4 i (by omega) hj
/-- The document's way to read a table. -/
def symR (strs row : L8) : Sy := ⟨nameAt strs (wd row 0), wd row 4, wd row 8, (((row.drop 12).headD 0).toNat / 16 : Nat), (((row.drop 15).headD 0).toNat : Int)⟩
def okR (strs row : L8) : Bool := endsAt strs (wd row 0) && fitY (symR strs row)
def rowR (strs row : L8) : L8 := rowB (symR strs row) (wd row 0)
def symsRL (t : Tb) (n : Nat) : List Sy := (List.range n).map fun i => symR t.strs (rowAt t.syms (i + 1))
def allR (t : Tb) (n : Nat) : L8 := zero16 ++ (List.range n).flatMap fun i => rowR t.strs (rowAt t.syms (i + 1))
def rowsR (t : Tb) (n : Nat) : Bool := (List.range n).all fun i => okR t.strs (rowAt t.syms (i + 1))
def refE (t : Tb) : Bool := lenOk t && rowsR t (cntN t) && (allR t (cntN t) == t.syms)
theorem hf_14 (row : L8) (h : row.length = 16) : hf row 14 = ((row.drop 14).headD 0).toNat * 256 + ((row.drop 15).headD 0).toNat := by
  have h2 : (row.drop 14).length = 2 := by rw [List.length_drop, h]
  have e15 : row.drop 15 = (row.drop 14).drop 1 := by rw [List.drop_drop]
  unfold hf
  rw [e15]
  match row.drop 14, h2 with
  | [a, b], _ => simp [W.beL]
theorem sym_same (strs row : L8) (h : row.length = 16) (h0 : ((row.drop 14).headD 0).toNat = 0) : symN strs row = symR strs row := by
  unfold symN symR
  rw [hf_14 row h, h0, Nat.zero_mul, Nat.zero_add]
theorem head14 (s : Sy) (o : Nat) (hp : s.part.toNat < 256) : ((rowB s o).drop 14).headD 0 = 0 := by
  have e : (rowB s o).drop 14 = bN 2 s.part.toNat := by
    rw [show (14 : Nat) = 12 + 2 from rfl, ← List.drop_drop, row_d12, show (2 : Nat) = 1 + 1 from rfl, drop_app2 _ _ 1 1 (bN_len 1 _), drop_app _ _ 1 (bN_len 1 _)]
  rw [e, b2_is _ hp]
  rfl
theorem row_iff (strs row : L8) (h : row.length = 16) : (rowOk strs row = true ∧ fitY (symN strs row) = true) ↔ (okR strs row = true ∧ rowR strs row = row) := by
  constructor
  · rintro ⟨h1, h2⟩
    unfold rowOk at h1
    rw [Bool.and_eq_true, beq_iff_eq] at h1
    have hfit := of_decide_eq_true h2
    have h0 : ((row.drop 14).headD 0).toNat = 0 := by
      have := head14 (symN strs row) (wd row 0) (by have := hfit.2.2.2.2.2.2; omega)
      rw [h1.2] at this
      rw [this]; rfl
    have e := sym_same strs row h h0
    unfold okR rowR
    rw [← e, h1.1, h2, h1.2]
    exact ⟨rfl, rfl⟩
  · rintro ⟨h1, h2⟩
    unfold okR at h1
    rw [Bool.and_eq_true] at h1
    have hfit := of_decide_eq_true h1.2
    unfold rowR at h2
    have h0 : ((row.drop 14).headD 0).toNat = 0 := by
      have := head14 (symR strs row) (wd row 0) (by have := hfit.2.2.2.2.2.2; omega)
      rw [h2] at this
      rw [this]; rfl
    have e := sym_same strs row h h0
    unfold rowOk
    rw [e, h1.1, h1.2, h2]
    simp
theorem rowAt_len (syms : L8) (i : Nat) (h : 16 * i + 16 ≤ syms.length) : (rowAt syms i).length = 16 := part_len _ _ _ h
theorem rows_cat (syms : L8) : ∀ n, 16 * (n + 1) ≤ syms.length → (List.range n).flatMap (fun i => rowAt syms (i + 1)) = (syms.drop 16).take (16 * n)
  | 0, _ => by simp
  | n + 1, h => by
    rw [List.range_succ, List.flatMap_append, rows_cat syms n (by omega)]
    simp only [List.flatMap_cons, List.flatMap_nil, List.append_nil]
    unfold rowAt
    rw [show 16 * (n + 1) = 16 + 16 * n by omega]
    rw [tkt syms 16 (16 * n) (16 + 16 * n) 16 rfl, show 16 * n + 16 = 16 + 16 * n by omega]
theorem flat_eq (f g : Nat → L8) : ∀ n, (∀ i, i < n → (f i).length = 16) → (∀ i, i < n → (g i).length = 16) → (List.range n).flatMap f = (List.range n).flatMap g → ∀ i, i < n → f i = g i
  | 0, _, _, _, i, hi => by omega
  | n + 1, h1, h2, h, i, hi => by
    rw [List.range_succ, List.flatMap_append, List.flatMap_append] at h
    simp only [List.flatMap_cons, List.flatMap_nil, List.append_nil] at h
    have hl : ((List.range n).flatMap f).length = ((List.range n).flatMap g).length := by
      have := congrArg List.length h
      rw [List.length_append, List.length_append, h1 n (by omega), h2 n (by omega)] at this
      omega
    obtain ⟨e1, e2⟩ := List.append_inj h hl
    by_cases e : i = n
    · rw [e]; exact e2
    · exact flat_eq f g n (fun j hj => h1 j (by omega)) (fun j hj => h2 j (by omega)) e1 i (by omega)
theorem len_parts {t : Tb} (h : lenOk t = true) : t.syms.length = 16 * (cntN t + 1) ∧ cntN t ≤ 200 := by
  unfold lenOk at h
  rw [decide_eq_true_eq] at h
  unfold cntN
  omega
theorem ref_read (t : Tb) : refE t = readE t ∧ (readE t = true → symsRL t (cntN t) = symsAt t (cntN t)) := by
  by_cases hl : lenOk t = true
  · obtain ⟨hlen, hc⟩ := len_parts hl
    have hrl : ∀ i, i < cntN t → (rowAt t.syms (i + 1)).length = 16 := fun i hi => rowAt_len _ _ (by omega)
    have key : (refE t = true) ↔ (t.syms.take 16 = zero16 ∧ ∀ i, i < cntN t → okR t.strs (rowAt t.syms (i + 1)) = true ∧ rowR t.strs (rowAt t.syms (i + 1)) = rowAt t.syms (i + 1)) := by
      unfold refE rowsR allR
      rw [hl, Bool.true_and, Bool.and_eq_true, List.all_eq_true, beq_iff_eq]
      have hcat := rows_cat t.syms (cntN t) (by omega)
      have hsp : t.syms = t.syms.take 16 ++ (t.syms.drop 16).take (16 * cntN t) := by
        conv => lhs; rw [← List.take_append_drop 16 t.syms]
        rw [List.take_of_length_le (l := t.syms.drop 16) (by rw [List.length_drop]; omega)]
      constructor
      · rintro ⟨h1, h2⟩
        rw [hsp] at h2
        obtain ⟨e1, e2⟩ := List.append_inj h2 (by simp [zero16]; omega)
        rw [← hsp] at e2
        rw [← hcat] at e2
        have := flat_eq _ _ (cntN t) (fun i hi => rowB_len _ _) hrl e2
        exact ⟨e1.symm, fun i hi => ⟨h1 i (List.mem_range.2 hi), this i hi⟩⟩
      · rintro ⟨h1, h2⟩
        refine ⟨fun i hi => (h2 i (List.mem_range.1 hi)).1, ?_⟩
        conv => rhs; rw [hsp, h1, ← hcat]
        congr 1
        have : ∀ n, n ≤ cntN t → (List.range n).flatMap (fun i => rowR t.strs (rowAt t.syms (i + 1))) = (List.range n).flatMap (fun i => rowAt t.syms (i + 1)) := by
          intro n
          induction n with
          | zero => intro _; rfl
          | succ n ih =>
            intro hn
            rw [List.range_succ, List.flatMap_append, List.flatMap_append, ih (by omega)]
            simp only [List.flatMap_cons, List.flatMap_nil, List.append_nil]
            rw [(h2 n (by omega)).2]
        exact this _ (Nat.le_refl _)
    have key2 : (readE t = true) ↔ (t.syms.take 16 = zero16 ∧ ∀ i, i < cntN t → rowOk t.strs (rowAt t.syms (i + 1)) = true ∧ fitY (symN t.strs (rowAt t.syms (i + 1))) = true) := by
      unfold readE rowsOk fitL symsAt
      rw [hl, Bool.true_and, Bool.and_eq_true, Bool.and_eq_true, Bool.and_eq_true, List.all_eq_true, beq_iff_eq, List.all_eq_true, decide_eq_true_eq]
      constructor
      · rintro ⟨⟨h1, h2⟩, _, h3⟩
        refine ⟨h1, fun i hi => ⟨h2 i (List.mem_range.2 hi), h3 _ ?_⟩⟩
        exact List.mem_map.2 ⟨i, List.mem_range.2 hi, rfl⟩
      · rintro ⟨h1, h2⟩
        refine ⟨⟨h1, fun i hi => (h2 i (List.mem_range.1 hi)).1⟩, by simpa using hc, fun s hs => ?_⟩
        obtain ⟨i, hi, rfl⟩ := List.mem_map.1 hs
        exact (h2 i (List.mem_range.1 hi)).2
    have key3 : (refE t = true) ↔ (readE t = true) := by
      rw [key, key2]
      constructor
      · rintro ⟨h1, h2⟩
        exact ⟨h1, fun i hi => (row_iff _ _ (hrl i hi)).2 (h2 i hi)⟩
      · rintro ⟨h1, h2⟩
        exact ⟨h1, fun i hi => (row_iff _ _ (hrl i hi)).1 (h2 i hi)⟩
    refine ⟨Bool.eq_iff_iff.2 key3, fun h => ?_⟩
    have h2 := (key.1 (key3.2 h)).2
    unfold symsRL symsAt
    apply List.map_congr_left
    intro i hi
    have hi := List.mem_range.1 hi
    have hfit : FitY (symR t.strs (rowAt t.syms (i + 1))) := by
      have := (h2 i hi).1
      unfold okR at this
      rw [Bool.and_eq_true] at this
      exact of_decide_eq_true this.2
    have h0 : (((rowAt t.syms (i + 1)).drop 14).headD 0).toNat = 0 := by
      have := head14 (symR t.strs (rowAt t.syms (i + 1))) (wd (rowAt t.syms (i + 1)) 0) (by have := hfit.2.2.2.2.2.2; omega)
      have e := (h2 i hi).2
      unfold rowR at e
      rw [e] at this
      rw [this]; rfl
    exact (sym_same _ _ (hrl i hi) h0).symm
  · have hl : lenOk t = false := by simpa using hl
    have h : readE t = false := by unfold readE; rw [hl]; rfl
    refine ⟨by rw [h]; unfold refE; rw [hl]; rfl, fun h' => by rw [h] at h'; cases h'⟩
end Go.Proofs.Ytmkfgoacbehhcaa
