/- What is proved here: instructions as text, in plain words: what each part comes to, how a line is read, and that a line is read as its instruction. -/
import Derived.Test.YtglkkeelocdanaaDoorPy
import Derived.Test.YtglkkeelocdanaaDoorNk
namespace Go.Proofs.YtglkkeelocdanaaDoor
open Go.RowKit
set_option linter.unusedVariables false
set_option linter.unusedSimpArgs false
set_option maxRecDepth 100000
/-- A number of 16 bits with its sign. -/
def sgn (m : Nat) : Int := if 32768 ≤ m % 65536 then (m % 65536 : Nat) - 65536 else (m % 65536 : Nat)
/-- What a part comes to. -/
def toldL (i : In) (x : L8) : L8 :=
  if x = [115] then Lib.itoa i.rs else if x = [116] then Lib.itoa i.rt else if x = [100] then Lib.itoa i.rd else if x = [97] then Lib.itoa i.sa else if x = [105] then Lib.itoa (sgn i.imm) else if x = [117] then Lib.itoa i.imm else x
def formL8 (n : ByteArray) : L8 := (foundR (nameB n)).form.toList
/-- What stands behind an instruction's name. -/
def tailL (i : In) : L8 := (partsL (patL i.name.toList (formL8 i.name) (i.imm == 0))).flatMap (toldL i)
/-- An instruction as text. -/
def lineL (i : In) : L8 := if isIns i then i.name.toList ++ tailL i else []
/-- A number is taken off a text. -/
def numR (l : L8) : Option (Int × L8) := match Lib.atoiAll (l.takeWhile isNum) with
  | .ok v => some (v, l.dropWhile isNum)
  | _ => none
/-- A text is taken off a text. -/
def textR (x l : L8) : Option L8 := if x.isPrefixOf l then some (l.drop x.length) else none
def imI (v : Int) : Nat := (v % 65536).toNat
def imU (v : Int) : Nat := (v % 4294967296).toNat
/-- A part is taken off a line. -/
def stepR (x : L8) (s : In × L8) : Option (In × L8) :=
  if x = [115] then (numR s.2).map (fun r => ({ s.1 with rs := r.1 }, r.2)) else if x = [116] then (numR s.2).map (fun r => ({ s.1 with rt := r.1 }, r.2)) else
  if x = [100] then (numR s.2).map (fun r => ({ s.1 with rd := r.1 }, r.2)) else if x = [97] then (numR s.2).map (fun r => ({ s.1 with sa := r.1 }, r.2)) else
  if x = [105] then (numR s.2).map (fun r => ({ s.1 with imm := imI r.1 }, r.2)) else if x = [117] then (numR s.2).map (fun r => ({ s.1 with imm := imU r.1 }, r.2)) else
  (textR x s.2).map (fun r => (s.1, r))
def runR : List L8 → In × L8 → Option (In × L8)
  | [], s => some s
  | x :: t, s => (stepR x s).bind (runR t)
theorem runR_append (xs ys : List L8) : ∀ s, runR (xs ++ ys) s = (runR xs s).bind (runR ys) := by
  induction xs with
  | nil => intro s; rfl
  | cons x t ih =>
    intro s
    simp only [List.cons_append, runR]
    cases stepR x s with
    | none => rfl
    | some r => exact ih r
def nameOf (s : L8) : L8 := s.takeWhile (· != 32)
def bareI (n : L8) : In := ⟨⟨n.toArray⟩, 0, 0, 0, 0, 0⟩
/-- What is left behind the name. -/
def restL (s : L8) : L8 := s.drop (nameOf s).length
def partsOf (s : L8) : List L8 := partsL (patL (nameOf s) (formL8 ⟨(nameOf s).toArray⟩) (restL s == []))
/-- How a line is read. -/
def insR (s : L8) : Option In :=
  if formL8 ⟨(nameOf s).toArray⟩ = [] then none else
  match runR (partsOf s) (bareI (nameOf s), restL s) with
  | some r => if lineL r.1 = s then some r.1 else none
  | none => none
/-! A line is read as its instruction. -/
def isLtr (x : L8) : Bool := x == [115] || (x == [116] || (x == [100] || (x == [97] || (x == [105] || x == [117]))))
def headOk : List L8 → Bool
  | [] => true
  | y :: _ => !isLtr y && (match y with | [] => false | c :: _ => !isNum c)
def wfL : List L8 → Bool
  | [] => true
  | x :: t => (!isLtr x || headOk t) && wfL t
def set1 (i : In) (j : In) (x : L8) : In :=
  if x = [115] then { j with rs := i.rs } else if x = [116] then { j with rt := i.rt } else if x = [100] then { j with rd := i.rd } else if x = [97] then { j with sa := i.sa } else if x = [105] then { j with imm := i.imm } else if x = [117] then { j with imm := i.imm } else j
/-- Numbers that an int holds. -/
structure Bd (i : In) : Prop where
  rs : 0 ≤ i.rs ∧ i.rs < 32
  rt : 0 ≤ i.rt ∧ i.rt < 32
  rd : 0 ≤ i.rd ∧ i.rd < 32
  sa : 0 ≤ i.sa ∧ i.sa < 32
  imm : i.imm < 67108864
theorem numR_itoa (v : Int) (h0 : -9223372036854775808 ≤ v) (h1 : v ≤ 9223372036854775807) (r : L8) (hr : ∀ c ∈ r.head?, isNum c = false) : numR (Lib.itoa v ++ r) = some (v, r) := by
  obtain ⟨e1, e2⟩ := take_num v r hr
  unfold numR
  rw [e1, e2, atoi_itoa v h0 h1]
theorem textR_app (x r : L8) : textR x (x ++ r) = some r := by
  unfold textR
  rw [if_pos (by simp), List.drop_left]
theorem imI_sgn (m : Nat) (h : m < 65536) : imI (sgn m) = m := by
  unfold imI sgn
  rw [Nat.mod_eq_of_lt h]
  split <;> omega
theorem imU_nat (m : Nat) (h : m < 4294967296) : imU (m : Int) = m := by unfold imU; omega
theorem ltr_of {x : L8} (h : isLtr x = false) : x ≠ [115] ∧ x ≠ [116] ∧ x ≠ [100] ∧ x ≠ [97] ∧ x ≠ [105] ∧ x ≠ [117] := by
  unfold isLtr at h
  simpa using h
theorem told_lit (i : In) {x : L8} (h : isLtr x = false) : toldL i x = x := by
  obtain ⟨h1, h2, h3, h4, h5, h6⟩ := ltr_of h
  unfold toldL
  rw [if_neg h1, if_neg h2, if_neg h3, if_neg h4, if_neg h5, if_neg h6]
theorem step_told (i : In) (hb : Bd i) (x : L8) (h5 : x = [105] → i.imm < 65536) (j : In) (r : L8) (hr : isLtr x = true → ∀ c ∈ r.head?, isNum c = false) : stepR x (j, toldL i x ++ r) = some (set1 i j x, r) := by
  have b1 := hb.rs; have b2 := hb.rt; have b3 := hb.rd; have b4 := hb.sa; have b5 := hb.imm
  by_cases c1 : x = [115]
  · subst c1
    have k := numR_itoa i.rs (by omega) (by omega) r (hr rfl)
    simp [stepR, toldL, set1, k]
  by_cases c2 : x = [116]
  · subst c2
    have k := numR_itoa i.rt (by omega) (by omega) r (hr rfl)
    simp [stepR, toldL, set1, k]
  by_cases c3 : x = [100]
  · subst c3
    have k := numR_itoa i.rd (by omega) (by omega) r (hr rfl)
    simp [stepR, toldL, set1, k]
  by_cases c4 : x = [97]
  · subst c4
    have k := numR_itoa i.sa (by omega) (by omega) r (hr rfl)
    simp [stepR, toldL, set1, k]
  by_cases c5 : x = [105]
  · have h6 := h5 c5
    clear h5
    subst c5
    have k := numR_itoa (sgn i.imm) (by unfold sgn; split <;> omega) (by unfold sgn; split <;> omega) r (hr rfl)
    simp [stepR, toldL, set1, k, imI_sgn i.imm h6]
  by_cases c6 : x = [117]
  · subst c6
    have k := numR_itoa (i.imm : Int) (by omega) (by omega) r (hr rfl)
    simp [stepR, toldL, set1, k, imU_nat i.imm (by omega)]
  · have hl : isLtr x = false := by unfold isLtr; simp [c1, c2, c3, c4, c5, c6]
    rw [told_lit i hl]
    unfold stepR set1
    simp only [if_neg c1, if_neg c2, if_neg c3, if_neg c4, if_neg c5, if_neg c6, textR_app, Option.map_some]
theorem head_flat (i : In) : ∀ t, headOk t = true → ∀ c ∈ (t.flatMap (toldL i)).head?, isNum c = false
  | [], _, c, hc => by simp at hc
  | y :: t, h, c, hc => by
    unfold headOk at h
    rw [Bool.and_eq_true] at h
    have hl : isLtr y = false := by simpa using h.1
    rw [List.flatMap_cons, told_lit i hl] at hc
    cases y with
    | nil => simp at h
    | cons d z =>
      have e : d = c := by simpa using hc
      have := h.2
      subst e
      simpa using this
theorem run_told (i : In) (hb : Bd i) : ∀ xs, wfL xs = true → ([105] ∈ xs → i.imm < 65536) → ∀ j, runR xs (j, xs.flatMap (toldL i)) = some (xs.foldl (set1 i) j, [])
  | [], _, _, j => rfl
  | x :: t, h, h5, j => by
    unfold wfL at h
    rw [Bool.and_eq_true] at h
    have ht := run_told i hb t h.2 (fun hm => h5 (List.mem_cons_of_mem _ hm)) (set1 i j x)
    rw [runR, List.flatMap_cons, step_told i hb x (fun e => h5 (by rw [e]; exact List.mem_cons_self ..)) j _ (fun hx => head_flat i t (by have := h.1; rw [hx] at this; simpa using this))]
    exact ht
theorem fold_rs (i : In) : ∀ (xs : List L8) (j : In), (xs.foldl (set1 i) j).rs = if [115] ∈ xs then i.rs else j.rs
  | [], j => by simp
  | x :: t, j => by
    rw [List.foldl_cons, fold_rs i t]
    by_cases hm : [115] ∈ t
    · rw [if_pos hm, if_pos (List.mem_cons_of_mem _ hm)]
    · rw [if_neg hm]
      by_cases hx : x = [115]
      · subst hx; rw [if_pos (List.mem_cons_self ..)]; simp [set1]
      · rw [if_neg (by simp only [List.mem_cons, not_or]; exact ⟨fun e => hx e.symm, hm⟩)]
        unfold set1
        repeat' split
        all_goals first | rfl | contradiction
theorem fold_rt (i : In) : ∀ (xs : List L8) (j : In), (xs.foldl (set1 i) j).rt = if [116] ∈ xs then i.rt else j.rt
  | [], j => by simp
  | x :: t, j => by
    rw [List.foldl_cons, fold_rt i t]
    by_cases hm : [116] ∈ t
    · rw [if_pos hm, if_pos (List.mem_cons_of_mem _ hm)]
    · rw [if_neg hm]
      by_cases hx : x = [116]
      · subst hx; rw [if_pos (List.mem_cons_self ..)]; simp [set1]
      · rw [if_neg (by simp only [List.mem_cons, not_or]; exact ⟨fun e => hx e.symm, hm⟩)]
        unfold set1
        repeat' split
        all_goals first | rfl | contradiction
theorem fold_rd (i : In) : ∀ (xs : List L8) (j : In), (xs.foldl (set1 i) j).rd = if [100] ∈ xs then i.rd else j.rd
  | [], j => by simp
  | x :: t, j => by
    rw [List.foldl_cons, fold_rd i t]
    by_cases hm : [100] ∈ t
    · rw [if_pos hm, if_pos (List.mem_cons_of_mem _ hm)]
    · rw [if_neg hm]
      by_cases hx : x = [100]
      · subst hx; rw [if_pos (List.mem_cons_self ..)]; simp [set1]
      · rw [if_neg (by simp only [List.mem_cons, not_or]; exact ⟨fun e => hx e.symm, hm⟩)]
        unfold set1
        repeat' split
        all_goals first | rfl | contradiction
theorem fold_sa (i : In) : ∀ (xs : List L8) (j : In), (xs.foldl (set1 i) j).sa = if [97] ∈ xs then i.sa else j.sa
  | [], j => by simp
  | x :: t, j => by
    rw [List.foldl_cons, fold_sa i t]
    by_cases hm : [97] ∈ t
    · rw [if_pos hm, if_pos (List.mem_cons_of_mem _ hm)]
    · rw [if_neg hm]
      by_cases hx : x = [97]
      · subst hx; rw [if_pos (List.mem_cons_self ..)]; simp [set1]
      · rw [if_neg (by simp only [List.mem_cons, not_or]; exact ⟨fun e => hx e.symm, hm⟩)]
        unfold set1
        repeat' split
        all_goals first | rfl | contradiction
theorem fold_name (i : In) : ∀ (xs : List L8) (j : In), (xs.foldl (set1 i) j).name = j.name
  | [], j => rfl
  | x :: t, j => by
    rw [List.foldl_cons, fold_name i t]
    unfold set1
    repeat' split
    all_goals rfl
theorem fold_imm (i : In) : ∀ (xs : List L8) (j : In), (xs.foldl (set1 i) j).imm = if [105] ∈ xs ∨ [117] ∈ xs then i.imm else j.imm
  | [], j => by simp
  | x :: t, j => by
    rw [List.foldl_cons, fold_imm i t]
    by_cases hm : [105] ∈ t ∨ [117] ∈ t
    · rw [if_pos hm, if_pos (by rcases hm with h | h; exact .inl (List.mem_cons_of_mem _ h); exact .inr (List.mem_cons_of_mem _ h))]
    · rw [if_neg hm]
      by_cases hx : x = [105]
      · subst hx; rw [if_pos (.inl (List.mem_cons_self ..))]; simp [set1]
      by_cases hy : x = [117]
      · subst hy; rw [if_pos (.inr (List.mem_cons_self ..))]; simp [set1]
      · rw [if_neg (by simp only [List.mem_cons]; rintro ((h | h) | (h | h)); exact hx h.symm; exact hm (.inl h); exact hy h.symm; exact hm (.inr h))]
        unfold set1
        repeat' split
        all_goals first | rfl | contradiction
/-- What each row has: its parts are well parted, and its letters are those of the numbers that its form has. -/
def rowB (r : Rw) (b : Bool) : Bool :=
  let xs := partsL (patL r.name.toList r.form.toList b)
  wfL xs && ((decide ([115] ∈ xs) || (regsD r.form).1 == false) && ((decide ([116] ∈ xs) || (regsD r.form).2.1 == false) && ((decide ([100] ∈ xs) || (regsD r.form).2.2.1 == false) && ((decide ([97] ∈ xs) || (regsD r.form).2.2.2 == false) &&
  ((!(decide ([105] ∈ xs)) || wideN r.form == 16) && ((decide ([105] ∈ xs) || (decide ([117] ∈ xs) || (wideN r.form == 0 || b))) &&
  ((r.name.toList.all (· != 32)) && ((match xs with | [] => true | y :: _ => !isLtr y && y.head? == some 32) && ((!(r.name.toList.isEmpty)) && (!(r.form.toList.isEmpty)))))))))))
theorem rows_parted : rowsL.all (fun r => rowB r true && rowB r false) = true := by decide +kernel
structure RowP (r : Rw) (b : Bool) (xs : List L8) : Prop where
  wf : wfL xs = true
  s : [115] ∈ xs ∨ (regsD r.form).1 = false
  t : [116] ∈ xs ∨ (regsD r.form).2.1 = false
  d : [100] ∈ xs ∨ (regsD r.form).2.2.1 = false
  a : [97] ∈ xs ∨ (regsD r.form).2.2.2 = false
  i : [105] ∈ xs → wideN r.form = 16
  m : [105] ∈ xs ∨ [117] ∈ xs ∨ wideN r.form = 0 ∨ b = true
  n : ∀ c ∈ r.name.toList, c ≠ 32
  h : ∀ y ys, xs = y :: ys → isLtr y = false ∧ y.head? = some 32
  ne : r.name.toList ≠ []
  fe : r.form.toList ≠ []
theorem row_p {r : Rw} (hr : r ∈ rowsL) (b : Bool) : RowP r b (partsL (patL r.name.toList r.form.toList b)) := by
  have h := List.all_eq_true.1 rows_parted r hr
  rw [Bool.and_eq_true] at h
  have hb : rowB r b = true := by cases b; exact h.2; exact h.1
  clear h
  unfold rowB at hb
  simp only at hb
  generalize partsL (patL r.name.toList r.form.toList b) = xs at hb ⊢
  simp only [Bool.and_eq_true, Bool.or_eq_true, decide_eq_true_eq, beq_iff_eq, Bool.not_eq_true', decide_eq_false_iff_not, List.all_eq_true, bne_iff_ne, ne_eq] at hb
  obtain ⟨h1, h2, h3, h4, h5, h6, h7, h8, h9, h10, h11⟩ := hb
  refine ⟨h1, h2, h3, h4, h5, fun hm => h6.resolve_left (fun h => h hm), h7, h8, fun y ys e => ?_, fun e => by rw [e] at h10; simp at h10, fun e => by rw [e] at h11; simp at h11⟩
  rw [e] at h9
  simp only [Bool.and_eq_true, Bool.not_eq_true', beq_iff_eq] at h9
  exact h9
theorem fits_zero {v : Int} (h : fitsB v false = true) : v = 0 := by unfold fitsB at h; simpa using h
theorem fits_bd {v : Int} {b : Bool} (h : fitsB v b = true) : 0 ≤ v ∧ v < 32 := by
  unfold fitsB at h
  simp only [Bool.or_eq_true, beq_iff_eq, Bool.and_eq_true, decide_eq_true_eq] at h
  omega
/-- What an instruction that can be has. -/
structure InP (i : In) (a : Nat) (ha : a < rowsL.length) : Prop where
  name : i.name = rowsL[a].name
  form : formL8 i.name = rowsL[a].form.toList
  fs : fitsB i.rs (regsD rowsL[a].form).1 = true
  ft : fitsB i.rt (regsD rowsL[a].form).2.1 = true
  fd : fitsB i.rd (regsD rowsL[a].form).2.2.1 = true
  fa : fitsB i.sa (regsD rowsL[a].form).2.2.2 = true
  fm : i.imm < 2 ^ wideN rowsL[a].form
theorem in_p {i : In} (h : isIns i = true) : ∃ a, ∃ ha, InP i a ha := by
  obtain ⟨a, ha, hn, _, _⟩ := ins_is h
  have hF : foundR (nameB i.name) = rowsL[a] := by rw [foundR, found_name ha i.name hn]; rfl
  have hD : fitD i (selA i.name) = true := by have := (enc_eq i).1; rw [h] at this; exact this
  have hf : (selA i.name).form = rowsL[a].form := by rw [← form_eq, hF]
  unfold fitD at hD
  rw [hf] at hD
  simp only [Bool.and_eq_true, Bool.not_eq_true', decide_eq_false_iff_not] at hD
  exact ⟨a, ha, hn, by rw [formL8, hF], hD.2.1, hD.2.2.1, hD.2.2.2.1, hD.2.2.2.2.1, by have := hD.2.2.2.2.2.1; omega⟩
theorem in_bd {i : In} (h : isIns i = true) : Bd i := by
  obtain ⟨a, ha, p⟩ := in_p h
  refine ⟨fits_bd p.fs, fits_bd p.ft, fits_bd p.fd, fits_bd p.fa, ?_⟩
  have := p.fm
  have hw := wide_le rowsL[a].form
  have : 2 ^ wideN rowsL[a].form ≤ 2 ^ 26 := Nat.pow_le_pow_right (by decide) hw
  omega
theorem take_name (n r : L8) (hn : ∀ c ∈ n, c ≠ 32) (hr : r = [] ∨ r.head? = some 32) : (n ++ r).takeWhile (· != 32) = n := by
  induction n with
  | nil =>
    rcases hr with rfl | hr
    · rfl
    · cases r with
      | nil => simp at hr
      | cons c t =>
        have e : c = 32 := by simpa using hr
        subst e
        simp
  | cons x t ih =>
    have hx := hn x (List.mem_cons_self ..)
    have i1 := ih (fun c hc => hn c (List.mem_cons_of_mem _ hc))
    simp [hx, i1]
theorem tail_head {i : In} {a : Nat} {ha : a < rowsL.length} (p : InP i a ha) : tailL i = [] ∨ (tailL i).head? = some 32 := by
  have rp := row_p (List.getElem_mem ha) (i.imm == 0)
  unfold tailL
  rw [p.form, p.name]
  generalize partsL _ = xs at rp ⊢
  cases xs with
  | nil => exact .inl rfl
  | cons y ys =>
    obtain ⟨h1, h2⟩ := rp.h y ys rfl
    right
    rw [List.flatMap_cons, told_lit i h1]
    cases y with
    | nil => simp at h2
    | cons c z => simpa using h2
/-- Whether nothing stands behind the name tells the pattern. -/
theorem pat_bare {i : In} {a : Nat} {ha : a < rowsL.length} (p : InP i a ha) : patL i.name.toList (formL8 i.name) (tailL i == []) = patL i.name.toList (formL8 i.name) (i.imm == 0) := by
  by_cases hf : formL8 i.name = [99]
  · by_cases h0 : (i.name.toList == [97, 110, 100, 105] || (i.name.toList == [111, 114, 105] || i.name.toList == [120, 111, 114, 105])) = true
    · unfold patL; rw [if_pos h0, if_pos h0]
    · have e : (tailL i == []) = (i.imm == 0) := by
        unfold tailL
        rw [hf]
        cases hb : (i.imm == 0) with
        | true =>
          have : patL i.name.toList [99] true = [] := by unfold patL; rw [if_neg h0]; rfl
          rw [this]; rfl
        | false =>
          have : patL i.name.toList [99] false = [32, 117] := by unfold patL; rw [if_neg h0]; rfl
          rw [this]
          have e2 : partsL [32, 117] = [[32], [117]] := by decide
          rw [e2]
          simp [toldL]
      rw [e]
  · have key : ∀ b b', patL i.name.toList (formL8 i.name) b = patL i.name.toList (formL8 i.name) b' := by
      intro b b'
      unfold patL
      have : (formL8 i.name == [99]) = false := by simpa using hf
      rw [this]
      simp only [Bool.false_eq_true, if_false]
    exact key _ _
theorem drop_name (n r : L8) : (n ++ r).drop n.length = r := List.drop_left
theorem line_name {i : In} (h : isIns i = true) {a : Nat} {ha : a < rowsL.length} (p : InP i a ha) : nameOf (lineL i) = i.name.toList ∧ restL (lineL i) = tailL i := by
  have rp := row_p (List.getElem_mem ha) (i.imm == 0)
  have e1 : nameOf (lineL i) = i.name.toList := by
    unfold nameOf lineL
    rw [if_pos h]
    exact take_name _ _ (by rw [p.name]; exact rp.n) (tail_head p)
  refine ⟨e1, ?_⟩
  unfold restL
  rw [e1]
  unfold lineL
  rw [if_pos h, drop_name]
theorem ins_line {i : In} (h : isIns i = true) : insR (lineL i) = some i := by
  obtain ⟨a, ha, p⟩ := in_p h
  have hb := in_bd h
  have rp := row_p (List.getElem_mem ha) (i.imm == 0)
  obtain ⟨e1, e2⟩ := line_name h p
  have hpo : partsOf (lineL i) = partsL (patL rowsL[a].name.toList rowsL[a].form.toList (i.imm == 0)) := by
    unfold partsOf
    rw [e1, e2, ba_list, pat_bare p, p.form, p.name]
  have ht : tailL i = (partsL (patL rowsL[a].name.toList rowsL[a].form.toList (i.imm == 0))).flatMap (toldL i) := by unfold tailL; rw [p.form, p.name]
  unfold insR
  rw [e1, e2, ba_list, if_neg (by rw [p.form]; exact rp.fe), hpo, ht]
  generalize partsL (patL rowsL[a].name.toList rowsL[a].form.toList (i.imm == 0)) = xs at rp
  rw [run_told i hb xs rp.wf (fun hm => by have := p.fm; rw [rp.i hm] at this; omega)]
  have e : xs.foldl (set1 i) (bareI i.name.toList) = i := by
    have q0 := fold_name i xs (bareI i.name.toList)
    have q1 := fold_rs i xs (bareI i.name.toList)
    have q2 := fold_rt i xs (bareI i.name.toList)
    have q3 := fold_rd i xs (bareI i.name.toList)
    have q4 := fold_sa i xs (bareI i.name.toList)
    have q5 := fold_imm i xs (bareI i.name.toList)
    generalize xs.foldl (set1 i) (bareI i.name.toList) = j at q0 q1 q2 q3 q4 q5 ⊢
    have z1 : ¬ [115] ∈ xs → i.rs = 0 := fun hm => fits_zero (by have := p.fs; rwa [rp.s.resolve_left hm] at this)
    have z2 : ¬ [116] ∈ xs → i.rt = 0 := fun hm => fits_zero (by have := p.ft; rwa [rp.t.resolve_left hm] at this)
    have z3 : ¬ [100] ∈ xs → i.rd = 0 := fun hm => fits_zero (by have := p.fd; rwa [rp.d.resolve_left hm] at this)
    have z4 : ¬ [97] ∈ xs → i.sa = 0 := fun hm => fits_zero (by have := p.fa; rwa [rp.a.resolve_left hm] at this)
    have z5 : ¬ ([105] ∈ xs ∨ [117] ∈ xs) → i.imm = 0 := fun hm => by
      rcases rp.m with h | h | h | h
      · exact absurd (.inl h) hm
      · exact absurd (.inr h) hm
      · have := p.fm; rw [h] at this; omega
      · simpa using h
    obtain ⟨n, rs, rt, rd, sa, imm⟩ := i
    obtain ⟨n', rs', rt', rd', sa', imm'⟩ := j
    simp only [bareI] at q0 q1 q2 q3 q4 q5 z1 z2 z3 z4 z5
    rw [ba_list] at q0
    congr 1
    · rw [q1]; split
      · rfl
      · rename_i hm; exact (z1 hm).symm
    · rw [q2]; split
      · rfl
      · rename_i hm; exact (z2 hm).symm
    · rw [q3]; split
      · rfl
      · rename_i hm; exact (z3 hm).symm
    · rw [q4]; split
      · rfl
      · rename_i hm; exact (z4 hm).symm
    · rw [q5]; split
      · rfl
      · rename_i hm; exact (z5 hm).symm
  simp only [e, if_true]
theorem form_nil : formL8 ⟨#[]⟩ = [] := by decide +kernel
/-- Whatever is read is a line's. -/
theorem insR_is {s : L8} {i : In} (h : insR s = some i) : isIns i = true ∧ lineL i = s := by
  unfold insR at h
  split at h
  · cases h
  · rename_i hf
    split at h
    · rename_i r hr
      split at h
      · rename_i hl
        injection h with h
        subst h
        refine ⟨?_, hl⟩
        cases hi : isIns r.1 with
        | true => rfl
        | false =>
          exfalso
          unfold lineL at hl
          rw [hi] at hl
          have hl : [] = s := by simpa using hl
          rw [← hl] at hf
          exact hf form_nil
      · cases h
    · cases h
/-- A text is read as an instruction just if it is that one's line. -/
theorem insR_iff (s : L8) (i : In) : insR s = some i ↔ isIns i = true ∧ lineL i = s := by
  constructor
  · exact insR_is
  · rintro ⟨h1, h2⟩
    rw [← h2]
    exact ins_line h1
end Go.Proofs.YtglkkeelocdanaaDoor
