/- What is proved here: how the document reads a line's numbers, in plain words: of an instruction's line they are the instruction's. -/
import Derived.Test.YtglkkeelocdanaaGreatDoorNn
import Derived.Laws.AppendOwn
import Derived.OwnWalk
import Derived.LoopTactic
namespace Go.Proofs.YtglkkeelocdanaaGreatDoor
open Go.RowKit
set_option linter.unusedVariables false
set_option linter.unusedSimpArgs false
set_option maxRecDepth 100000
/-- Digits are read, up to a bound. -/
def digL : Nat → L8 → Nat × L8
  | n, [] => (n, [])
  | n, c :: t => if isDig c && decide (n < 1099511627776) then digL (n * 10 + (c.toNat - 48)) t else (n, c :: t)
def sgnI (pm : Bool) (n : Nat) : Int := if pm then -(n : Int) else n
/-- A text's numbers, with signs, but no more than five. -/
def numF : Nat → Bool → L8 → List Int → List Int
  | 0, _, _, acc => acc
  | k + 1, pm, r, acc => match r with
    | [] => acc
    | c :: t => if 5 ≤ acc.length then acc else if isDig c then
        (match (digL 0 (c :: t)).2 with
        | [] => acc ++ [sgnI pm (digL 0 (c :: t)).1]
        | d :: t' => numF k (d == 45) t' (acc ++ [sgnI pm (digL 0 (c :: t)).1]))
      else numF k (c == 45) t acc
def numsL (s : L8) : List Int := numF (s.length + 1) false s []
theorem digL_app (r : L8) (hr : ∀ c ∈ r.head?, isDig c = false) : ∀ (l : L8) (n m : Nat), (∀ c ∈ l, isDig c = true) → (∀ j, j < l.length → (l.take j).foldl (fun a c => a * 10 + (c.toNat - 48)) n < 1099511627776) → l.foldl (fun a c => a * 10 + (c.toNat - 48)) n = m → digL n (l ++ r) = (m, r)
  | [], n, m, _, _, hm => by
    have hm : n = m := hm
    subst hm
    cases r with
    | nil => rfl
    | cons c t =>
      have := hr c (by simp)
      simp [digL, this]
  | c :: t, n, m, hl, hj, hm => by
    have h0 := hj 0 (by simp)
    have hc := hl c (List.mem_cons_self ..)
    rw [List.cons_append, digL, hc, if_pos (by simpa using h0)]
    exact digL_app r hr t _ m (fun d hd => hl d (List.mem_cons_of_mem _ hd)) (fun j hj' => by
      have := hj (j + 1) (by simpa using hj')
      simpa using this) hm
theorem dec_fold : ∀ u : Nat, (Lib.decDigits u).foldl (fun a c => a * 10 + (c.toNat - 48)) 0 = u ∧ ∀ j, j < (Lib.decDigits u).length → ((Lib.decDigits u).take j).foldl (fun a c => a * 10 + (c.toNat - 48)) 0 ≤ u := by
  intro u
  induction u using Nat.strongRecOn with
  | ind u ih =>
    by_cases h : u < 10
    · rw [dec_one u h]
      have := dg_toNat u h
      refine ⟨by simp; omega, fun j hj => ?_⟩
      have hj : j = 0 := by simpa using hj
      subst hj
      simp
    · rw [dec_step u (by omega)]
      obtain ⟨i1, i2⟩ := ih (u / 10) (by omega)
      have := dg_toNat (u % 10) (by omega)
      refine ⟨?_, fun j hj => ?_⟩
      · rw [List.foldl_append, i1]; simp [this]; omega
      · by_cases hj2 : j < (Lib.decDigits (u / 10)).length
        · rw [List.take_append_of_le_length (by omega)]
          have := i2 j hj2
          omega
        · have hj3 : j = (Lib.decDigits (u / 10)).length := by simp at hj; omega
          rw [hj3, List.take_left, i1]
          omega
theorem digL_dec (u : Nat) (hu : u < 1099511627776) (r : L8) (hr : ∀ c ∈ r.head?, isDig c = false) : digL 0 (Lib.decDigits u ++ r) = (u, r) :=
  digL_app r hr _ 0 u (dec_dig u) (fun j hj => Nat.lt_of_le_of_lt ((dec_fold u).2 j hj) hu) (dec_fold u).1
/-- What is no number's is passed by. -/
theorem numF_skip (r : L8) (acc : List Int) (hacc : acc.length < 5) : ∀ (z : L8) (k : Nat), (∀ c ∈ z, isNum c = false) → numF (k + z.length) false (z ++ r) acc = numF k false r acc
  | [], k, _ => rfl
  | c :: t, k, hz => by
    have hc := hz c (List.mem_cons_self ..)
    have h1 : isDig c = false := by unfold isNum at hc; simp at hc; exact hc.2
    have h2 : (c == 45) = false := by
      unfold isNum at hc
      simp at hc
      have := hc.1
      simp
      intro e
      rw [e] at this
      exact this rfl
    rw [List.length_cons, show k + (t.length + 1) = (k + t.length) + 1 by omega, List.cons_append, numF]
    simp only [h1, h2, Bool.false_eq_true, if_false]
    rw [if_neg (by omega)]
    exact numF_skip r acc hacc t k (fun d hd => hz d (List.mem_cons_of_mem _ hd))
theorem dec_head (u : Nat) : ∃ c t, Lib.decDigits u = c :: t ∧ isDig c = true := by
  cases h : Lib.decDigits u with
  | nil => exact absurd h (dec_ne u)
  | cons c t => exact ⟨c, t, rfl, dec_dig u c (by rw [h]; exact List.mem_cons_self ..)⟩
/-- A number is read, and what stands right behind it is passed by. -/
theorem numF_num (u : Nat) (hu : u < 1099511627776) (pm : Bool) (acc : List Int) (hacc : acc.length < 5) (k : Nat) : numF (k + 1) pm (Lib.decDigits u) acc = acc ++ [sgnI pm u] ∧ ∀ d r, isDig d = false → numF (k + 1) pm (Lib.decDigits u ++ d :: r) acc = numF k (d == 45) r (acc ++ [sgnI pm u]) := by
  obtain ⟨c, t, e, hc⟩ := dec_head u
  have h1 := digL_dec u hu [] (by simp)
  rw [List.append_nil] at h1
  refine ⟨?_, fun d r hd => ?_⟩
  · rw [e] at h1 ⊢
    rw [numF]
    simp only [hc, if_true, h1]
    rw [if_neg (by omega)]
  · have h2 := digL_dec u hu (d :: r) (by simpa using hd)
    rw [e, List.cons_append] at h2
    rw [e, List.cons_append, numF]
    simp only [hc, if_true, h2]
    rw [if_neg (by omega)]
theorem numF_itoa (v : Int) (h0 : -1099511627776 < v) (h1 : v < 1099511627776) (acc : List Int) (hacc : acc.length < 5) (k : Nat) (hk : 2 ≤ k) : numF k false (Lib.itoa v) acc = acc ++ [v] ∧ ∀ d r, isDig d = false → ∃ k', k ≤ k' + 2 ∧ numF k false (Lib.itoa v ++ d :: r) acc = numF k' (d == 45) r (acc ++ [v]) := by
  obtain ⟨q, rfl⟩ : ∃ q, k = q + 2 := ⟨k - 2, by omega⟩
  by_cases hv : 0 ≤ v
  · obtain ⟨n, rfl⟩ := Int.eq_ofNat_of_zero_le hv
    have e : Lib.itoa (n : Int) = Lib.decDigits n := by unfold Lib.itoa; rw [if_neg (by omega)]; simp
    rw [e]
    obtain ⟨a1, a2⟩ := numF_num n (by omega) false acc hacc (q + 1)
    exact ⟨a1, fun d r hd => ⟨q + 1, by omega, a2 d r hd⟩⟩
  · obtain ⟨n, rfl⟩ : ∃ n : Nat, v = -(n : Int) := ⟨v.natAbs, by omega⟩
    have e : Lib.itoa (-(n : Int)) = 45 :: Lib.decDigits n := by unfold Lib.itoa; rw [if_pos (by omega)]; simp
    rw [e]
    obtain ⟨a1, a2⟩ := numF_num n (by omega) true acc hacc q
    have st : ∀ x, numF (q + 2) false (45 :: x) acc = numF (q + 1) true x acc := fun x => by
      rw [numF]
      simp only [show isDig 45 = false from by decide, show ((45 : UInt8) == 45) = true from by decide, Bool.false_eq_true, if_false]
      rw [if_neg (by omega)]
    refine ⟨by rw [st, a1]; rfl, fun d r hd => ⟨q, by omega, ?_⟩⟩
    rw [List.cons_append, st, a2 d r hd]
    rfl
/-- The number of a part. -/
def valO (i : In) (x : L8) : Option Int :=
  if x = [115] then some i.rs else if x = [116] then some i.rt else if x = [100] then some i.rd else if x = [97] then some i.sa else if x = [105] then some (sgn i.imm) else if x = [117] then some (i.imm : Int) else none
theorem told_val (i : In) (hb : Bd i) {x : L8} (h : isLtr x = true) : ∃ v, valO i x = some v ∧ toldL i x = Lib.itoa v ∧ -1099511627776 < v ∧ v < 1099511627776 := by
  have b1 := hb.rs; have b2 := hb.rt; have b3 := hb.rd; have b4 := hb.sa; have b5 := hb.imm
  have b6 : -32768 ≤ sgn i.imm ∧ sgn i.imm < 32768 := by unfold sgn; split <;> omega
  unfold isLtr at h
  simp only [Bool.or_eq_true, beq_iff_eq] at h
  rcases h with rfl | rfl | rfl | rfl | rfl | rfl
  · exact ⟨i.rs, rfl, rfl, by omega, by omega⟩
  · exact ⟨i.rt, rfl, rfl, by omega, by omega⟩
  · exact ⟨i.rd, rfl, rfl, by omega, by omega⟩
  · exact ⟨i.sa, rfl, rfl, by omega, by omega⟩
  · exact ⟨sgn i.imm, rfl, rfl, by omega, by omega⟩
  · exact ⟨(i.imm : Int), rfl, rfl, by omega, by omega⟩
theorem val_lit (i : In) {x : L8} (h : isLtr x = false) : valO i x = none := by
  obtain ⟨h1, h2, h3, h4, h5, h6⟩ := ltr_of h
  unfold valO
  rw [if_neg h1, if_neg h2, if_neg h3, if_neg h4, if_neg h5, if_neg h6]
/-- Texts between letters have no sign of a number. -/
def litsB (xs : List L8) : Bool := xs.all (fun x => isLtr x || x.all (fun c => !isNum c))
theorem scan (i : In) (hb : Bd i) : ∀ (n : Nat) (xs : List L8), xs.length ≤ n → wfL xs = true → litsB xs = true → ∀ (z : L8), (∀ c ∈ z, isNum c = false) → ∀ (acc : List Int), acc.length + (xs.filterMap (valO i)).length < 5 → ∀ k, (z ++ xs.flatMap (toldL i)).length + 1 ≤ k → numF k false (z ++ xs.flatMap (toldL i)) acc = acc ++ xs.filterMap (valO i) := by
  intro n
  induction n with
  | zero =>
    intro xs hx _ _ z hz acc hacc k hk
    have : xs = [] := List.eq_nil_of_length_eq_zero (by omega)
    subst this
    obtain ⟨q, rfl⟩ : ∃ q, k = (q + 1) + z.length := ⟨k - 1 - z.length, by simp at hk; omega⟩
    rw [List.flatMap_nil, numF_skip [] acc (by simp at hacc; omega) z (q + 1) hz]
    simp [numF]
  | succ n ih =>
    intro xs hx hw hl z hz acc hacc k hk
    cases xs with
    | nil =>
      obtain ⟨q, rfl⟩ : ∃ q, k = (q + 1) + z.length := ⟨k - 1 - z.length, by simp at hk; omega⟩
      rw [List.flatMap_nil, numF_skip [] acc (by simp at hacc; omega) z (q + 1) hz]
      simp [numF]
    | cons x t =>
      rw [wfL, Bool.and_eq_true] at hw
      rw [litsB, List.all_cons, Bool.and_eq_true] at hl
      cases hx2 : isLtr x with
      | false =>
        rw [hx2] at hl
        have hxn : ∀ c ∈ x, isNum c = false := fun c hc => by
          have := List.all_eq_true.1 (by simpa using hl.1 : x.all (fun c => !isNum c) = true) c hc
          simpa using this
        rw [List.flatMap_cons, told_lit i hx2, ← List.append_assoc] at hk ⊢
        rw [List.filterMap_cons, val_lit i hx2] at hacc ⊢
        exact ih t (by simpa using hx) hw.2 hl.2 (z ++ x) (fun c hc => (List.mem_append.1 hc).elim (hz c) (hxn c)) acc hacc k hk
      | true =>
        obtain ⟨v, e1, e2, v0, v1⟩ := told_val i hb hx2
        rw [List.filterMap_cons, e1] at hacc ⊢
        simp only [List.length_cons] at hacc
        rw [List.flatMap_cons, e2] at hk ⊢
        obtain ⟨q, rfl⟩ : ∃ q, k = q + z.length := ⟨k - z.length, by simp at hk; omega⟩
        rw [numF_skip _ acc (by omega) z q hz]
        have hil : 1 ≤ (Lib.itoa v).length := by
          cases hh : Lib.itoa v with
          | nil => exact absurd hh (itoa_ne v)
          | cons => simp
        have hq : 2 ≤ q := by simp at hk; omega
        obtain ⟨a1, a2⟩ := numF_itoa v v0 v1 acc (by omega) q hq
        have hh : headOk t = true := by have := hw.1; rw [hx2] at this; simpa using this
        cases t with
        | nil => rw [List.flatMap_nil, List.append_nil, a1]; simp
        | cons y t' =>
          unfold headOk at hh
          rw [Bool.and_eq_true] at hh
          have hy : isLtr y = false := by simpa using hh.1
          cases y with
          | nil => simp at hh
          | cons d y' =>
            have hd : isNum d = false := by simpa using hh.2
            have hdd : isDig d = false := by unfold isNum at hd; simp at hd; exact hd.2
            have hd5 : (d == 45) = false := by
              unfold isNum at hd
              simp at hd
              have := hd.1
              simp
              intro e
              rw [e] at this
              exact this rfl
            rw [List.all_cons, Bool.and_eq_true, hy] at hl
            have hyn : ∀ c ∈ y', isNum c = false := fun c hc => by
              have := List.all_eq_true.1 (by simpa using hl.2.1 : (d :: y').all (fun c => !isNum c) = true) c (List.mem_cons_of_mem _ hc)
              simpa using this
            rw [List.flatMap_cons, told_lit i hy, List.cons_append] at hk ⊢
            obtain ⟨k', hk', e3⟩ := a2 d (y' ++ t'.flatMap (toldL i)) hdd
            rw [e3, hd5]
            have hv : ((d :: y') :: t').filterMap (valO i) = t'.filterMap (valO i) := by rw [List.filterMap_cons, val_lit i hy]
            rw [hv] at hacc ⊢
            rw [wfL, Bool.and_eq_true] at hw
            have := ih t' (by simp at hx; omega) hw.2.2 hl.2.2 y' hyn (acc ++ [v]) (by simp; omega) k' (by simp at hk ⊢; omega)
            rw [this, List.append_assoc]
            rfl
def rowLB (r : Rw) (b : Bool) : Bool := let xs := partsL (patL r.name.toList r.form.toList b); litsB xs && decide ((xs.filter isLtr).length < 5)
theorem rows_lits : rowsL.all (fun r => rowLB r true && rowLB r false) = true := by decide +kernel
theorem val_count (i : In) : ∀ xs : List L8, (xs.filterMap (valO i)).length ≤ (xs.filter isLtr).length
  | [] => by simp
  | x :: t => by
    have h := val_count i t
    cases hx : isLtr x with
    | false => rw [List.filterMap_cons, val_lit i hx, List.filter_cons, hx]; exact h
    | true =>
      rw [List.filter_cons, hx, List.filterMap_cons]
      cases valO i x with
      | none => simp; omega
      | some v => simp; omega
/-- The numbers behind an instruction's name, in the order in which they are written. -/
def valsL (i : In) : List Int := (partsL (patL i.name.toList (formL8 i.name) (i.imm == 0))).filterMap (valO i)
theorem nums_tail {i : In} (h : isIns i = true) : numsL (tailL i) = valsL i := by
  obtain ⟨a, ha, p⟩ := in_p h
  have rp := row_p (List.getElem_mem ha) (i.imm == 0)
  have hl := List.all_eq_true.1 rows_lits _ (List.getElem_mem ha)
  rw [Bool.and_eq_true] at hl
  have hl2 : rowLB rowsL[a] (i.imm == 0) = true := by cases (i.imm == 0); exact hl.2; exact hl.1
  unfold rowLB at hl2
  simp only at hl2
  rw [Bool.and_eq_true] at hl2
  unfold numsL tailL valsL
  rw [p.form, p.name]
  generalize partsL (patL rowsL[a].name.toList rowsL[a].form.toList (i.imm == 0)) = xs at rp hl2 ⊢
  have hc := val_count i xs
  have hd := of_decide_eq_true hl2.2
  have := scan i (in_bd h) xs.length xs (Nat.le_refl _) rp.wf hl2.1 [] (by simp) [] (by simp; omega) ((xs.flatMap (toldL i)).length + 1) (by simp)
  simpa using this
end Go.Proofs.YtglkkeelocdanaaGreatDoor
namespace Go.Proofs.YtglkkeelocdanaaGreatDoor
open Go.RowKit
set_option linter.unusedVariables false
set_option linter.unusedSimpArgs false
set_option maxRecDepth 100000
/-- A slice of whole numbers. -/
def Ints (w : World) (v : Value) (l : List Int) : Prop := (v = .slice none 0 0 ∧ l = []) ∨ ∃ g cap, v = .slice (some ⟨g, 0, none⟩) l.length cap ∧ l.length ≤ 10 ∧ ∀ k (h : k < l.length), w.cell? ⟨g, k, none⟩ = some (.int .i64 l[k])
theorem Ints.keep {w w' : World} {v : Value} {l : List Int} (h : Ints w v l) (hb : Below w.heap.size w w') : Ints w' v l := by
  rcases h with h | ⟨g, cap, h1, h2, h3⟩
  · exact .inl h
  · exact .inr ⟨g, cap, h1, h2, fun k hk => keep_cell hb (h3 k hk)⟩
def ivs (l : List Int) : List Value := l.map (fun v => Value.int .i64 v)
theorem own_ints {w : World} {base : Nat} {v : Value} {l : List Int} (h : w.ownsRow base 3 1 v l.length (ivs l)) (hl : l.length ≤ 10) : Ints w v l := by
  obtain ⟨hx, ⟨rfl, h0⟩ | ⟨g, cap, cur, rfl, hb, hh, hn, hc, hcs, hx2⟩⟩ := h
  · exact .inl ⟨rfl, List.eq_nil_of_length_eq_zero h0⟩
  · refine .inr ⟨g, cap, rfl, hl, fun k hk => ?_⟩
    have e : (ivs l)[k]? = some (.int .i64 l[k]) := by unfold ivs; rw [List.getElem?_map, List.getElem?_eq_getElem hk]; rfl
    rw [← hx2, List.getElem?_take] at e
    split at e
    · simp only [World.cell?, hh]; simpa using e
    · cases e
theorem own_shape1 {w : World} {base e n : Nat} {v : Value} {xs : List Value} (h : w.ownsRow base e 1 v n xs) : ∃ a c, v = .slice a n c := by
  obtain ⟨hx, ⟨rfl, h0⟩ | ⟨g, cap, cur, rfl, _⟩⟩ := h
  · exact ⟨none, 0, by rw [h0]⟩
  · exact ⟨_, _, rfl⟩
theorem own_alloc1 {w : World} {base e n : Nat} {v : Value} {xs : List Value} (h : w.ownsRow base e 1 v n xs) (o : Obj) : (w.alloc o).ownsRow base e 1 v n xs := by
  obtain ⟨hx, h0 | ⟨g, cap, cur, h1, h2, h3, h4⟩⟩ := h
  · exact ⟨hx, .inl h0⟩
  · exact ⟨hx, .inr ⟨g, cap, cur, h1, h2, (Below.heap_alloc _ _ _ (Array.getElem?_eq_some_iff.1 h3).1).trans h3, h4⟩⟩
theorem own_ge1 {w : World} {base e n : Nat} {v : Value} {xs : List Value} (h : w.ownsRow base e 1 v n xs) (g : Nat) (hg : v.ownBlock = some g) : base ≤ g := by
  obtain ⟨hx, ⟨rfl, h0⟩ | ⟨g', cap, cur, rfl, hb, _⟩⟩ := h
  · simp [Value.ownBlock] at hg
  · simp [Value.ownBlock] at hg; omega
theorem info3 : (Tryz.prog.info? 3).map (fun i => (i.zero, i.size, i.bytes)) = some (some (.int .i64 0), 1, 8) := by kernel_rfl
theorem field47 (v : Value) (l : List Int) (k : Nat) (hk : k < 10) (w : World) (h : Ints w v l) : Calls Tryz.prog 47 #[v, .int .i64 (k : Int)] w fun e w' => e = .returned (.int .i64 (l.getD k 0)) ∧ w' = w := by
  rcases h with ⟨rfl, rfl⟩ | ⟨g, cap, rfl, hl, hc⟩
  · go_enter Tryz.func47, Tryz.ntmps47
    go_wp2
    go_ret
    exact ⟨rfl, rfl⟩
  · by_cases hlt : k < l.length
    · have c0 := hc k hlt
      have e : l.getD k 0 = l[k] := by simp [List.getD, hlt]
      rw [e]
      clear e
      generalize l[k] = x at c0 ⊢
      have hi : (k : Int) < (l.length : Int) := by omega
      clear hc hl
      generalize l.length = n at hlt hi ⊢
      go_enter Tryz.func47, Tryz.ntmps47
      go_wp2
      go_ret
      exact ⟨rfl, rfl⟩
    · have e : l.getD k 0 = 0 := by simp [List.getD, hlt]
      rw [e]
      have hi : ¬ (k : Int) < (l.length : Int) := by omega
      have hi2 : decide ((k : Int) < (l.length : Int)) = false := decide_eq_false hi
      clear hc hl e
      generalize l.length = n at hlt hi hi2 ⊢
      go_enter Tryz.func47, Tryz.ntmps47
      go_wp2
      go_ret
      exact ⟨rfl, rfl⟩
theorem dig_iff (c : UInt8) : isDig c = true ↔ 48 ≤ c.toNat ∧ c.toNat ≤ 57 := by unfold isDig; simp
theorem numF_end {k : Nat} {pm : Bool} {r : L8} {acc : List Int} (h : 5 ≤ acc.length) : numF k pm r acc = acc := by
  cases k with
  | zero => rfl
  | succ k =>
    cases r with
    | nil => rfl
    | cons c t => rw [numF, if_pos h]
theorem numF_nil (k : Nat) (pm : Bool) (acc : List Int) : numF k pm [] acc = acc := by
  cases k <;> rfl
theorem cells1 (w : World) (v : Value) (t : Nat) : ∀ j u, ([v] : List Value)[j]? = some u → (w.alloc (.cells #[v] t)).cell? ((⟨w.heap.size, 0, none⟩ : Addr).add j) = some u := by
  intro j u hj
  cases j with
  | zero =>
    have e : v = u := by simpa using hj
    subst e
    have ha : (Addr.add ⟨w.heap.size, 0, none⟩ 0) = ⟨w.heap.size, 0, none⟩ := by unfold Addr.add; split <;> simp_all
    rw [ha]
    exact (Boxed.new w t v).cell
  | succ j => simp at hj
theorem num_next {k : Nat} {pm : Bool} {c : UInt8} {t : L8} {acc T : List Int} {n : Nat} {l : L8} {q : Nat} (h5 : acc.length < 5) (hd : isDig c = true) (h : numF (k + 1) pm (c :: t) acc = T) (hf : digL 0 (c :: t) = (n, l.drop q)) :
    ∃ pm', numF k pm' (l.drop (q + 1)) (acc ++ [sgnI pm n]) = T ∧ ∀ (r : Nat) (hr : r < l.length), q + 1 = r + 1 → pm' = (l[r] == 45) := by
  rw [numF, if_neg (by omega), if_pos hd] at h
  simp only [hf] at h
  by_cases hq : q < l.length
  · rw [drop_cons l q hq] at h
    exact ⟨_, h, fun r hr e => by have : r = q := by omega
                                  subst this; rfl⟩
  · rw [List.drop_eq_nil_of_le (show l.length ≤ q by omega)] at h
    rw [List.drop_eq_nil_of_le (show l.length ≤ q + 1 by omega)]
    exact ⟨false, by rw [numF_nil]; exact h, fun r hr e => by omega⟩
set_option maxHeartbeats 4000000 in
theorem numbers20 (S : ByteArray) (hS : S.size ≤ 100000) (w : World) : Calls Tryz.prog 20 #[.string S] w fun e w' => (∃ v, e = .returned v ∧ Ints w' v (numsL S.toList)) ∧ Below w.heap.size w w' := by
  obtain ⟨i0, hi, hz0, hz1, hz2⟩ := info_parts info3
  have HI : Hid (Tryz.prog.info? 3 = some i0 ∧ i0.zero = some (.int .i64 0) ∧ i0.size = 1 ∧ i0.bytes = 8) := ⟨hi, hz0, hz1, hz2⟩
  have hlen := bt_len S
  obtain ⟨l, hl⟩ : ∃ z, z = S.toList := ⟨_, rfl⟩
  obtain ⟨T, hT⟩ : ∃ z, z = numsL S.toList := ⟨_, rfl⟩
  have HT : Hid (T = numF (l.length + 1) false l []) := by show _ = _; rw [hT, hl]; rfl
  rw [← hT]
  have HL : Hid (l = S.toList ∧ l.length = S.size) := ⟨hl, by rw [hl]; exact hlen⟩
  clear hT hi hz0 hz1 hz2 hl hlen
  obtain ⟨post, hpost⟩ : ∃ p : Ending → World → Prop, p = fun e w' => (∃ v, e = .returned v ∧ Ints w' v T) ∧ Below w.heap.size w w' := ⟨_, rfl⟩
  rw [← hpost]
  have HP : Hid (∀ v w', w'.ownsRow w.heap.size 3 1 v T.length (ivs T) → T.length ≤ 10 → Below w.heap.size w w' → post (.returned v) w') := fun v w' h1 h2 h3 => by rw [hpost]; exact ⟨⟨v, rfl, own_ints h1 h2⟩, h3⟩
  clear hpost
  go_enter Tryz.func20, Tryz.ntmps20
  go_wp2
  go_loopw [3, 4] (fun x y wr => ∃ (p k : Nat) (pm : Bool) (acc : List Int), y = .int .i64 (p : Int) ∧ wr.ownsRow w.heap.size 3 1 x acc.length (ivs acc) ∧ Below w.heap.size w wr ∧ p ≤ S.size + 1 ∧ acc.length ≤ 5 ∧ (l.drop p).length + 1 ≤ k ∧ numF k pm (l.drop p) acc = T ∧ (p = 0 → pm = false) ∧ (∀ (q : Nat) (hq : q < l.length), p = q + 1 → pm = (l[q] == 45)))
    (fun _ y _ => S.size + 2 - (intOf y).toNat)
  case atStart => exact ⟨0, l.length + 1, false, [], rfl, World.ownsRow_nil _ _ _ _, Below.refl _ _, Nat.zero_le _, Nat.zero_le _, Nat.le_refl _, HT.out.symm, fun _ => rfl, fun q _ h => by omega⟩
  case round =>
    obtain ⟨p, k, pm, acc, rfl, how, hb, hp, hac, hk, hnum, hp0, hpm⟩ := hrel
    obtain ⟨sa, sc, rfl⟩ := own_shape1 how
    have HB : Hid (Below w.heap.size w wr) := hb
    have HOW : Hid _ := how
    have hll := HL.out.2
    by_cases hlt : p < S.size
    · by_cases h5 : acc.length < 5
      · have hpl : p < l.length := by omega
        obtain ⟨c, hc⟩ : ∃ c, c = l[p] := ⟨_, rfl⟩
        have hix : S[p] = c := by
          have h := bt_get S p hlt (by rw [← HL.out.1]; exact hpl)
          rw [h, hc]
          simp only [HL.out.1]
        have HDP : Hid (l.drop p = c :: l.drop (p + 1)) := by show _ = _; rw [drop_cons l p hpl, ← hc]
        rw [HDP.out] at hnum hk
        obtain ⟨k, rfl⟩ : ∃ z, k = z + 1 := ⟨k - 1, by omega⟩
        have HNUM : Hid (numF (k + 1) pm (c :: l.drop (p + 1)) acc = T) := hnum
        have HK : Hid ((l.drop (p + 1)).length + 1 ≤ k) := by show _ ≤ _; simp at hk ⊢; omega
        obtain ⟨cn, hcn⟩ : ∃ z : Nat, z = c.toNat := ⟨_, rfl⟩
        have hix2 : S[p].toNat = cn := by rw [hix, hcn]
        have hi1 : (p : Int) < (S.size : Int) := by omega
        have hi2 : (acc.length : Int) < 5 := by omega
        clear hnum hk how hb
        by_cases hd : isDig c = true
        · have hd2 := (dig_iff c).1 hd
          rw [← hcn] at hd2
          have g1 : ¬ (cn : Int) < 48 := by omega
          have g2 : ¬ (57 : Int) < (cn : Int) := by omega
          have g3 : decide ((cn : Int) < 48) = false := decide_eq_false g1
          have g4 : decide ((57 : Int) < (cn : Int)) = false := decide_eq_false g2
          by_cases hpz : p = 0
          · have e0 := hp0 hpz
            subst e0
            have hz1 : ¬ (0 : Int) < (p : Int) := by omega
            have hz2 : decide ((0 : Int) < (p : Int)) = false := decide_eq_false hz1
            have hz3 : decide (0 < p) = false := decide_eq_false (by omega)
            clear hp0 hpm hc hix hcn hpz
            go_wp2
            go_loopw [4, 6] (fun x y w9 => ∃ q n : Nat, x = .int .i64 (q : Int) ∧ y = .int .i64 (n : Int) ∧ w9 = wr ∧ p ≤ q ∧ q ≤ S.size ∧ n ≤ 10995116277779 ∧ digL n (l.drop q) = digL 0 (l.drop p)) (fun x _ _ => S.size + 1 - (intOf x).toNat)
            case atStart => exact ⟨p, 0, rfl, rfl, rfl, Nat.le_refl _, by omega, by omega, rfl⟩
            case round =>
              obtain ⟨q, n, rfl, rfl, hw9, hpq, hqs, hn9, hdg⟩ := hrel
              subst hw9
              by_cases hq : q < S.size
              · have hql : q < l.length := by omega
                obtain ⟨d, hdd⟩ : ∃ d, d = l[q] := ⟨_, rfl⟩
                have hiq : S[q] = d := by
                  have h := bt_get S q hq (by rw [← HL.out.1]; exact hql)
                  rw [h, hdd]
                  simp only [HL.out.1]
                rw [drop_cons l q hql, ← hdd] at hdg
                have hqi : (q : Int) < (S.size : Int) := by omega
                obtain ⟨dn, hdn⟩ : ∃ z : Nat, z = d.toNat := ⟨_, rfl⟩
                have hiq2 : S[q].toNat = dn := by rw [hiq, hdn]
                by_cases hg : isDig d = true
                · have hg2 := (dig_iff d).1 hg
                  rw [← hdn] at hg2
                  have g1 : (48 : Int) ≤ (dn : Int) := by omega
                  have g2 : (dn : Int) ≤ 57 := by omega
                  by_cases hbig : n < 1099511627776
                  · have g3 : (n : Int) < 1099511627776 := by omega
                    rw [digL, hg, show decide (n < 1099511627776) = true from decide_eq_true hbig] at hdg
                    obtain ⟨m, hm⟩ : ∃ m : Nat, m = n * 10 + (dn - 48) := ⟨_, rfl⟩
                    have hm2 : (n : Int) * 10 + ((dn : Int) - 48) = (m : Int) := by omega
                    have HDG : Hid (digL m (l.drop (q + 1)) = digL 0 (l.drop p)) := by rw [hm, hdn]; exact hdg
                    have HMM : Hid (m ≤ 10995116277779 ∧ p ≤ q ∧ q < S.size) := ⟨by omega, hpq, hq⟩
                    clear hdg hdd hiq hdn hm hg
                    go_wp2
                    go_roundw
                    case rel => exact ⟨q + 1, m, by simp, by first | rfl | simp, by first | rfl | trivial, by have := HMM.out; omega, by have := HMM.out; omega, HMM.out.1, HDG.out⟩
                    case measure => have := HMM.out; simp [intOf]; omega
                  · have g4 : decide ((n : Int) < 1099511627776) = false := decide_eq_false (by omega)
                    have g5 : decide (n < 1099511627776) = false := decide_eq_false hbig
                    obtain ⟨pm2, hn2, hp2⟩ := num_next h5 hd HNUM.out (q := q) (n := n) (by rw [← HDP.out, ← hdg]; rw [drop_cons l q hql, ← hdd, digL, show decide (n < 1099511627776) = false from decide_eq_false hbig]; simp)
                    obtain ⟨NN, hNN⟩ : ∃ z : Int, z = sgnI false n := ⟨_, rfl⟩
                    rw [← hNN] at hn2
                    have hNv : (n : Int) = NN := by rw [hNN]; rfl
                    have HN2 : Hid (numF k pm2 (l.drop (q + 1)) (acc ++ [NN]) = T ∧ ∀ (r : Nat) (hr : r < l.length), q + 1 = r + 1 → pm2 = (l[r] == 45)) := ⟨hn2, hp2⟩
                    have HQ : Hid (p ≤ q ∧ q ≤ S.size ∧ n ≤ 10995116277779 ∧ (l.drop (p + 1)).length + 1 ≤ k ∧ l.length = S.size ∧ acc.length < 5) := ⟨hpq, hqs, hn9, HK.out, hll, h5⟩
                    have g6 : decide ((NN : Int) < 1099511627776) = false := by rw [← hNv]; exact g4
                    clear hdd hiq hdn hg hbig
                    clear hn2 hp2 hdg hNN hpq
                    go_wp2_with (at_builtin; refine wpList_append_own _ rfl (.tmp 70) (.tmp 72) 48 rfl w.heap.size 3 i0 _ 1 8 Tryz.underlying48 HI.out.1 HI.out.2.1 HI.out.2.2.1 HI.out.2.2.2 rfl (by decide) _ _ _ rfl (own_alloc1 HOW.out _) ⟨wr.heap.size, 0, none⟩ 1 1 [.int .i64 NN] rfl rfl (cells1 wr _ _) (by intro u hu; rw [show u = .int .i64 NN by simpa using hu]; rfl) (by have := HQ.out; unfold maxLen; omega) (by have := HQ.out; omega) (by have := HB.out.size; simp; omega) ?_; intro sv w2 how2 hgr2 _; obtain ⟨sa2, sc2, rfl⟩ := own_shape1 how2)
                    go_roundw
                    case rel =>
                      have hq := HQ.out
                      refine ⟨q + 1, k, pm2, acc ++ [NN], by simp, ?_, ?_, by omega, by simp; omega, by have := hq.2.2.2.1; simp at this ⊢; omega, HN2.out.1, fun h => by omega, HN2.out.2⟩
                      · have e : ivs (acc ++ [NN]) = ivs acc ++ [.int .i64 NN] := by simp [ivs]
                        rw [e]
                        simpa using how2
                      · have hba := HB.out.alloc HB.out.size (.cells #[.int .i64 NN] 3)
                        exact hba.grown hgr2 (by simp; have := HB.out.size; omega) (fun r e => own_ge1 HOW.out r e)
                    case measure => have hq := HQ.out; simp [intOf]; omega
                · have hgn : ¬ (48 ≤ dn ∧ dn ≤ 57) := by rw [hdn]; exact fun h => hg ((dig_iff d).2 h)
                  have hgf : isDig d = false := by simpa using hg
                  by_cases ha : 48 ≤ dn
                  · have g1 : (48 : Int) ≤ (dn : Int) := by omega
                    have g2 : ¬ (dn : Int) ≤ 57 := by omega
                    have g3 : decide ((dn : Int) ≤ 57) = false := decide_eq_false g2
                    obtain ⟨pm2, hn2, hp2⟩ := num_next h5 hd HNUM.out (q := q) (n := n) (by rw [← HDP.out, ← hdg]; rw [drop_cons l q hql, ← hdd, digL, hgf]; simp)
                    obtain ⟨NN, hNN⟩ : ∃ z : Int, z = sgnI false n := ⟨_, rfl⟩
                    rw [← hNN] at hn2
                    have hNv : (n : Int) = NN := by rw [hNN]; rfl
                    have HN2 : Hid (numF k pm2 (l.drop (q + 1)) (acc ++ [NN]) = T ∧ ∀ (r : Nat) (hr : r < l.length), q + 1 = r + 1 → pm2 = (l[r] == 45)) := ⟨hn2, hp2⟩
                    have HQ : Hid (p ≤ q ∧ q ≤ S.size ∧ n ≤ 10995116277779 ∧ (l.drop (p + 1)).length + 1 ≤ k ∧ l.length = S.size ∧ acc.length < 5) := ⟨hpq, hqs, hn9, HK.out, hll, h5⟩
                    clear hdd hiq hdn hg hgf hgn
                    clear hn2 hp2 hdg hNN hpq
                    go_wp2_with (at_builtin; refine wpList_append_own _ rfl (.tmp 70) (.tmp 72) 48 rfl w.heap.size 3 i0 _ 1 8 Tryz.underlying48 HI.out.1 HI.out.2.1 HI.out.2.2.1 HI.out.2.2.2 rfl (by decide) _ _ _ rfl (own_alloc1 HOW.out _) ⟨wr.heap.size, 0, none⟩ 1 1 [.int .i64 NN] rfl rfl (cells1 wr _ _) (by intro u hu; rw [show u = .int .i64 NN by simpa using hu]; rfl) (by have := HQ.out; unfold maxLen; omega) (by have := HQ.out; omega) (by have := HB.out.size; simp; omega) ?_; intro sv w2 how2 hgr2 _; obtain ⟨sa2, sc2, rfl⟩ := own_shape1 how2)
                    go_roundw
                    case rel =>
                      have hq := HQ.out
                      refine ⟨q + 1, k, pm2, acc ++ [NN], by simp, ?_, ?_, by omega, by simp; omega, by have := hq.2.2.2.1; simp at this ⊢; omega, HN2.out.1, fun h => by omega, HN2.out.2⟩
                      · have e : ivs (acc ++ [NN]) = ivs acc ++ [.int .i64 NN] := by simp [ivs]
                        rw [e]
                        simpa using how2
                      · have hba := HB.out.alloc HB.out.size (.cells #[.int .i64 NN] 3)
                        exact hba.grown hgr2 (by simp; have := HB.out.size; omega) (fun r e => own_ge1 HOW.out r e)
                    case measure => have hq := HQ.out; simp [intOf]; omega
                  · have g1 : ¬ (48 : Int) ≤ (dn : Int) := by omega
                    have g3 : decide ((48 : Int) ≤ (dn : Int)) = false := decide_eq_false g1
                    obtain ⟨pm2, hn2, hp2⟩ := num_next h5 hd HNUM.out (q := q) (n := n) (by rw [← HDP.out, ← hdg]; rw [drop_cons l q hql, ← hdd, digL, hgf]; simp)
                    obtain ⟨NN, hNN⟩ : ∃ z : Int, z = sgnI false n := ⟨_, rfl⟩
                    rw [← hNN] at hn2
                    have hNv : (n : Int) = NN := by rw [hNN]; rfl
                    have HN2 : Hid (numF k pm2 (l.drop (q + 1)) (acc ++ [NN]) = T ∧ ∀ (r : Nat) (hr : r < l.length), q + 1 = r + 1 → pm2 = (l[r] == 45)) := ⟨hn2, hp2⟩
                    have HQ : Hid (p ≤ q ∧ q ≤ S.size ∧ n ≤ 10995116277779 ∧ (l.drop (p + 1)).length + 1 ≤ k ∧ l.length = S.size ∧ acc.length < 5) := ⟨hpq, hqs, hn9, HK.out, hll, h5⟩
                    clear hdd hiq hdn hg hgf hgn
                    clear hn2 hp2 hdg hNN hpq
                    go_wp2_with (at_builtin; refine wpList_append_own _ rfl (.tmp 70) (.tmp 72) 48 rfl w.heap.size 3 i0 _ 1 8 Tryz.underlying48 HI.out.1 HI.out.2.1 HI.out.2.2.1 HI.out.2.2.2 rfl (by decide) _ _ _ rfl (own_alloc1 HOW.out _) ⟨wr.heap.size, 0, none⟩ 1 1 [.int .i64 NN] rfl rfl (cells1 wr _ _) (by intro u hu; rw [show u = .int .i64 NN by simpa using hu]; rfl) (by have := HQ.out; unfold maxLen; omega) (by have := HQ.out; omega) (by have := HB.out.size; simp; omega) ?_; intro sv w2 how2 hgr2 _; obtain ⟨sa2, sc2, rfl⟩ := own_shape1 how2)
                    go_roundw
                    case rel =>
                      have hq := HQ.out
                      refine ⟨q + 1, k, pm2, acc ++ [NN], by simp, ?_, ?_, by omega, by simp; omega, by have := hq.2.2.2.1; simp at this ⊢; omega, HN2.out.1, fun h => by omega, HN2.out.2⟩
                      · have e : ivs (acc ++ [NN]) = ivs acc ++ [.int .i64 NN] := by simp [ivs]
                        rw [e]
                        simpa using how2
                      · have hba := HB.out.alloc HB.out.size (.cells #[.int .i64 NN] 3)
                        exact hba.grown hgr2 (by simp; have := HB.out.size; omega) (fun r e => own_ge1 HOW.out r e)
                    case measure => have hq := HQ.out; simp [intOf]; omega
              · have hqi : ¬ (q : Int) < (S.size : Int) := by omega
                have hqj : decide ((q : Int) < (S.size : Int)) = false := decide_eq_false hqi
                obtain ⟨pm2, hn2, hp2⟩ := num_next h5 hd HNUM.out (q := q) (n := n) (by rw [← HDP.out, ← hdg]; rw [List.drop_eq_nil_of_le (show l.length ≤ q by omega)]; rfl)
                obtain ⟨NN, hNN⟩ : ∃ z : Int, z = sgnI false n := ⟨_, rfl⟩
                rw [← hNN] at hn2
                have hNv : (n : Int) = NN := by rw [hNN]; rfl
                have HN2 : Hid (numF k pm2 (l.drop (q + 1)) (acc ++ [NN]) = T ∧ ∀ (r : Nat) (hr : r < l.length), q + 1 = r + 1 → pm2 = (l[r] == 45)) := ⟨hn2, hp2⟩
                have HQ : Hid (p ≤ q ∧ q ≤ S.size ∧ n ≤ 10995116277779 ∧ (l.drop (p + 1)).length + 1 ≤ k ∧ l.length = S.size ∧ acc.length < 5) := ⟨hpq, hqs, hn9, HK.out, hll, h5⟩

                clear hn2 hp2 hdg hNN hpq
                go_wp2_with (at_builtin; refine wpList_append_own _ rfl (.tmp 70) (.tmp 72) 48 rfl w.heap.size 3 i0 _ 1 8 Tryz.underlying48 HI.out.1 HI.out.2.1 HI.out.2.2.1 HI.out.2.2.2 rfl (by decide) _ _ _ rfl (own_alloc1 HOW.out _) ⟨wr.heap.size, 0, none⟩ 1 1 [.int .i64 NN] rfl rfl (cells1 wr _ _) (by intro u hu; rw [show u = .int .i64 NN by simpa using hu]; rfl) (by have := HQ.out; unfold maxLen; omega) (by have := HQ.out; omega) (by have := HB.out.size; simp; omega) ?_; intro sv w2 how2 hgr2 _; obtain ⟨sa2, sc2, rfl⟩ := own_shape1 how2)
                go_roundw
                case rel =>
                  have hq := HQ.out
                  refine ⟨q + 1, k, pm2, acc ++ [NN], by simp, ?_, ?_, by omega, by simp; omega, by have := hq.2.2.2.1; simp at this ⊢; omega, HN2.out.1, fun h => by omega, HN2.out.2⟩
                  · have e : ivs (acc ++ [NN]) = ivs acc ++ [.int .i64 NN] := by simp [ivs]
                    rw [e]
                    simpa using how2
                  · have hba := HB.out.alloc HB.out.size (.cells #[.int .i64 NN] 3)
                    exact hba.grown hgr2 (by simp; have := HB.out.size; omega) (fun r e => own_ge1 HOW.out r e)
                case measure => have hq := HQ.out; simp [intOf]; omega
          · obtain ⟨p0, hpe⟩ : ∃ z, p = z + 1 := ⟨p - 1, by omega⟩
            have hp0l : p0 < l.length := by omega
            have hp0s : p0 < S.size := by omega
            have e0 := hpm p0 hp0l hpe
            have hix0 : S[p0] = l[p0] := by
              have h := bt_get S p0 hp0s (by rw [← HL.out.1]; exact hp0l)
              rw [h]
              simp only [HL.out.1]
            obtain ⟨bn, hbn⟩ : ∃ z : Nat, z = l[p0].toNat := ⟨_, rfl⟩
            have hix4 : S[p0].toNat = bn := by rw [hix0, hbn]
            have hi0 : (p0 : Int) < (S.size : Int) := by omega
            have hi4 : (0 : Int) < (p : Int) := by omega
            have hi5 : (p : Int) - 1 = (p0 : Int) := by omega
            have hi6 : 0 < p := by omega
            have e45 : (l[p0] == 45) = ((bn : Int) == 45) := by
              rw [hbn, Bool.eq_iff_iff]
              simp
              constructor
              · intro h; rw [h]; rfl
              · intro h; exact UInt8.toNat_inj.1 (by show l[p0].toNat = 45; omega)
            rw [e45] at e0
            clear hp0 hpm hc hix hcn e45 hix0 hbn hpe hpz
            cases pm with
            | true =>
              have e1 := e0.symm
              clear e0
              go_wp2
              go_loopw [4, 6] (fun x y w9 => ∃ q n : Nat, x = .int .i64 (q : Int) ∧ y = .int .i64 (n : Int) ∧ w9 = wr ∧ p ≤ q ∧ q ≤ S.size ∧ n ≤ 10995116277779 ∧ digL n (l.drop q) = digL 0 (l.drop p)) (fun x _ _ => S.size + 1 - (intOf x).toNat)
              case atStart => exact ⟨p, 0, rfl, rfl, rfl, Nat.le_refl _, by omega, by omega, rfl⟩
              case round =>
                obtain ⟨q, n, rfl, rfl, hw9, hpq, hqs, hn9, hdg⟩ := hrel
                subst hw9
                by_cases hq : q < S.size
                · have hql : q < l.length := by omega
                  obtain ⟨d, hdd⟩ : ∃ d, d = l[q] := ⟨_, rfl⟩
                  have hiq : S[q] = d := by
                    have h := bt_get S q hq (by rw [← HL.out.1]; exact hql)
                    rw [h, hdd]
                    simp only [HL.out.1]
                  rw [drop_cons l q hql, ← hdd] at hdg
                  have hqi : (q : Int) < (S.size : Int) := by omega
                  obtain ⟨dn, hdn⟩ : ∃ z : Nat, z = d.toNat := ⟨_, rfl⟩
                  have hiq2 : S[q].toNat = dn := by rw [hiq, hdn]
                  by_cases hg : isDig d = true
                  · have hg2 := (dig_iff d).1 hg
                    rw [← hdn] at hg2
                    have g1 : (48 : Int) ≤ (dn : Int) := by omega
                    have g2 : (dn : Int) ≤ 57 := by omega
                    by_cases hbig : n < 1099511627776
                    · have g3 : (n : Int) < 1099511627776 := by omega
                      rw [digL, hg, show decide (n < 1099511627776) = true from decide_eq_true hbig] at hdg
                      obtain ⟨m, hm⟩ : ∃ m : Nat, m = n * 10 + (dn - 48) := ⟨_, rfl⟩
                      have hm2 : (n : Int) * 10 + ((dn : Int) - 48) = (m : Int) := by omega
                      have HDG : Hid (digL m (l.drop (q + 1)) = digL 0 (l.drop p)) := by rw [hm, hdn]; exact hdg
                      have HMM : Hid (m ≤ 10995116277779 ∧ p ≤ q ∧ q < S.size) := ⟨by omega, hpq, hq⟩
                      clear hdg hdd hiq hdn hm hg
                      go_wp2
                      go_roundw
                      case rel => exact ⟨q + 1, m, by simp, by first | rfl | simp, by first | rfl | trivial, by have := HMM.out; omega, by have := HMM.out; omega, HMM.out.1, HDG.out⟩
                      case measure => have := HMM.out; simp [intOf]; omega
                    · have g4 : decide ((n : Int) < 1099511627776) = false := decide_eq_false (by omega)
                      have g5 : decide (n < 1099511627776) = false := decide_eq_false hbig
                      obtain ⟨pm2, hn2, hp2⟩ := num_next h5 hd HNUM.out (q := q) (n := n) (by rw [← HDP.out, ← hdg]; rw [drop_cons l q hql, ← hdd, digL, show decide (n < 1099511627776) = false from decide_eq_false hbig]; simp)
                      obtain ⟨NN, hNN⟩ : ∃ z : Int, z = sgnI true n := ⟨_, rfl⟩
                      rw [← hNN] at hn2
                      have hNv : -(n : Int) = NN := by rw [hNN]; rfl
                      have HN2 : Hid (numF k pm2 (l.drop (q + 1)) (acc ++ [NN]) = T ∧ ∀ (r : Nat) (hr : r < l.length), q + 1 = r + 1 → pm2 = (l[r] == 45)) := ⟨hn2, hp2⟩
                      have HQ : Hid (p ≤ q ∧ q ≤ S.size ∧ n ≤ 10995116277779 ∧ (l.drop (p + 1)).length + 1 ≤ k ∧ l.length = S.size ∧ acc.length < 5) := ⟨hpq, hqs, hn9, HK.out, hll, h5⟩
                      skip
                      clear hdd hiq hdn hg hbig
                      clear hn2 hp2 hdg hNN hpq
                      go_wp2_with (at_builtin; refine wpList_append_own _ rfl (.tmp 70) (.tmp 72) 48 rfl w.heap.size 3 i0 _ 1 8 Tryz.underlying48 HI.out.1 HI.out.2.1 HI.out.2.2.1 HI.out.2.2.2 rfl (by decide) _ _ _ rfl (own_alloc1 HOW.out _) ⟨wr.heap.size, 0, none⟩ 1 1 [.int .i64 NN] rfl rfl (cells1 wr _ _) (by intro u hu; rw [show u = .int .i64 NN by simpa using hu]; rfl) (by have := HQ.out; unfold maxLen; omega) (by have := HQ.out; omega) (by have := HB.out.size; simp; omega) ?_; intro sv w2 how2 hgr2 _; obtain ⟨sa2, sc2, rfl⟩ := own_shape1 how2)
                      go_roundw
                      case rel =>
                        have hq := HQ.out
                        refine ⟨q + 1, k, pm2, acc ++ [NN], by simp, ?_, ?_, by omega, by simp; omega, by have := hq.2.2.2.1; simp at this ⊢; omega, HN2.out.1, fun h => by omega, HN2.out.2⟩
                        · have e : ivs (acc ++ [NN]) = ivs acc ++ [.int .i64 NN] := by simp [ivs]
                          rw [e]
                          simpa using how2
                        · have hba := HB.out.alloc HB.out.size (.cells #[.int .i64 NN] 3)
                          exact hba.grown hgr2 (by simp; have := HB.out.size; omega) (fun r e => own_ge1 HOW.out r e)
                      case measure => have hq := HQ.out; simp [intOf]; omega
                  · have hgn : ¬ (48 ≤ dn ∧ dn ≤ 57) := by rw [hdn]; exact fun h => hg ((dig_iff d).2 h)
                    have hgf : isDig d = false := by simpa using hg
                    by_cases ha : 48 ≤ dn
                    · have g1 : (48 : Int) ≤ (dn : Int) := by omega
                      have g2 : ¬ (dn : Int) ≤ 57 := by omega
                      have g3 : decide ((dn : Int) ≤ 57) = false := decide_eq_false g2
                      obtain ⟨pm2, hn2, hp2⟩ := num_next h5 hd HNUM.out (q := q) (n := n) (by rw [← HDP.out, ← hdg]; rw [drop_cons l q hql, ← hdd, digL, hgf]; simp)
                      obtain ⟨NN, hNN⟩ : ∃ z : Int, z = sgnI true n := ⟨_, rfl⟩
                      rw [← hNN] at hn2
                      have hNv : -(n : Int) = NN := by rw [hNN]; rfl
                      have HN2 : Hid (numF k pm2 (l.drop (q + 1)) (acc ++ [NN]) = T ∧ ∀ (r : Nat) (hr : r < l.length), q + 1 = r + 1 → pm2 = (l[r] == 45)) := ⟨hn2, hp2⟩
                      have HQ : Hid (p ≤ q ∧ q ≤ S.size ∧ n ≤ 10995116277779 ∧ (l.drop (p + 1)).length + 1 ≤ k ∧ l.length = S.size ∧ acc.length < 5) := ⟨hpq, hqs, hn9, HK.out, hll, h5⟩
                      clear hdd hiq hdn hg hgf hgn
                      clear hn2 hp2 hdg hNN hpq
                      go_wp2_with (at_builtin; refine wpList_append_own _ rfl (.tmp 70) (.tmp 72) 48 rfl w.heap.size 3 i0 _ 1 8 Tryz.underlying48 HI.out.1 HI.out.2.1 HI.out.2.2.1 HI.out.2.2.2 rfl (by decide) _ _ _ rfl (own_alloc1 HOW.out _) ⟨wr.heap.size, 0, none⟩ 1 1 [.int .i64 NN] rfl rfl (cells1 wr _ _) (by intro u hu; rw [show u = .int .i64 NN by simpa using hu]; rfl) (by have := HQ.out; unfold maxLen; omega) (by have := HQ.out; omega) (by have := HB.out.size; simp; omega) ?_; intro sv w2 how2 hgr2 _; obtain ⟨sa2, sc2, rfl⟩ := own_shape1 how2)
                      go_roundw
                      case rel =>
                        have hq := HQ.out
                        refine ⟨q + 1, k, pm2, acc ++ [NN], by simp, ?_, ?_, by omega, by simp; omega, by have := hq.2.2.2.1; simp at this ⊢; omega, HN2.out.1, fun h => by omega, HN2.out.2⟩
                        · have e : ivs (acc ++ [NN]) = ivs acc ++ [.int .i64 NN] := by simp [ivs]
                          rw [e]
                          simpa using how2
                        · have hba := HB.out.alloc HB.out.size (.cells #[.int .i64 NN] 3)
                          exact hba.grown hgr2 (by simp; have := HB.out.size; omega) (fun r e => own_ge1 HOW.out r e)
                      case measure => have hq := HQ.out; simp [intOf]; omega
                    · have g1 : ¬ (48 : Int) ≤ (dn : Int) := by omega
                      have g3 : decide ((48 : Int) ≤ (dn : Int)) = false := decide_eq_false g1
                      obtain ⟨pm2, hn2, hp2⟩ := num_next h5 hd HNUM.out (q := q) (n := n) (by rw [← HDP.out, ← hdg]; rw [drop_cons l q hql, ← hdd, digL, hgf]; simp)
                      obtain ⟨NN, hNN⟩ : ∃ z : Int, z = sgnI true n := ⟨_, rfl⟩
                      rw [← hNN] at hn2
                      have hNv : -(n : Int) = NN := by rw [hNN]; rfl
                      have HN2 : Hid (numF k pm2 (l.drop (q + 1)) (acc ++ [NN]) = T ∧ ∀ (r : Nat) (hr : r < l.length), q + 1 = r + 1 → pm2 = (l[r] == 45)) := ⟨hn2, hp2⟩
                      have HQ : Hid (p ≤ q ∧ q ≤ S.size ∧ n ≤ 10995116277779 ∧ (l.drop (p + 1)).length + 1 ≤ k ∧ l.length = S.size ∧ acc.length < 5) := ⟨hpq, hqs, hn9, HK.out, hll, h5⟩
                      clear hdd hiq hdn hg hgf hgn
                      clear hn2 hp2 hdg hNN hpq
                      go_wp2_with (at_builtin; refine wpList_append_own _ rfl (.tmp 70) (.tmp 72) 48 rfl w.heap.size 3 i0 _ 1 8 Tryz.underlying48 HI.out.1 HI.out.2.1 HI.out.2.2.1 HI.out.2.2.2 rfl (by decide) _ _ _ rfl (own_alloc1 HOW.out _) ⟨wr.heap.size, 0, none⟩ 1 1 [.int .i64 NN] rfl rfl (cells1 wr _ _) (by intro u hu; rw [show u = .int .i64 NN by simpa using hu]; rfl) (by have := HQ.out; unfold maxLen; omega) (by have := HQ.out; omega) (by have := HB.out.size; simp; omega) ?_; intro sv w2 how2 hgr2 _; obtain ⟨sa2, sc2, rfl⟩ := own_shape1 how2)
                      go_roundw
                      case rel =>
                        have hq := HQ.out
                        refine ⟨q + 1, k, pm2, acc ++ [NN], by simp, ?_, ?_, by omega, by simp; omega, by have := hq.2.2.2.1; simp at this ⊢; omega, HN2.out.1, fun h => by omega, HN2.out.2⟩
                        · have e : ivs (acc ++ [NN]) = ivs acc ++ [.int .i64 NN] := by simp [ivs]
                          rw [e]
                          simpa using how2
                        · have hba := HB.out.alloc HB.out.size (.cells #[.int .i64 NN] 3)
                          exact hba.grown hgr2 (by simp; have := HB.out.size; omega) (fun r e => own_ge1 HOW.out r e)
                      case measure => have hq := HQ.out; simp [intOf]; omega
                · have hqi : ¬ (q : Int) < (S.size : Int) := by omega
                  have hqj : decide ((q : Int) < (S.size : Int)) = false := decide_eq_false hqi
                  obtain ⟨pm2, hn2, hp2⟩ := num_next h5 hd HNUM.out (q := q) (n := n) (by rw [← HDP.out, ← hdg]; rw [List.drop_eq_nil_of_le (show l.length ≤ q by omega)]; rfl)
                  obtain ⟨NN, hNN⟩ : ∃ z : Int, z = sgnI true n := ⟨_, rfl⟩
                  rw [← hNN] at hn2
                  have hNv : -(n : Int) = NN := by rw [hNN]; rfl
                  have HN2 : Hid (numF k pm2 (l.drop (q + 1)) (acc ++ [NN]) = T ∧ ∀ (r : Nat) (hr : r < l.length), q + 1 = r + 1 → pm2 = (l[r] == 45)) := ⟨hn2, hp2⟩
                  have HQ : Hid (p ≤ q ∧ q ≤ S.size ∧ n ≤ 10995116277779 ∧ (l.drop (p + 1)).length + 1 ≤ k ∧ l.length = S.size ∧ acc.length < 5) := ⟨hpq, hqs, hn9, HK.out, hll, h5⟩

                  clear hn2 hp2 hdg hNN hpq
                  go_wp2_with (at_builtin; refine wpList_append_own _ rfl (.tmp 70) (.tmp 72) 48 rfl w.heap.size 3 i0 _ 1 8 Tryz.underlying48 HI.out.1 HI.out.2.1 HI.out.2.2.1 HI.out.2.2.2 rfl (by decide) _ _ _ rfl (own_alloc1 HOW.out _) ⟨wr.heap.size, 0, none⟩ 1 1 [.int .i64 NN] rfl rfl (cells1 wr _ _) (by intro u hu; rw [show u = .int .i64 NN by simpa using hu]; rfl) (by have := HQ.out; unfold maxLen; omega) (by have := HQ.out; omega) (by have := HB.out.size; simp; omega) ?_; intro sv w2 how2 hgr2 _; obtain ⟨sa2, sc2, rfl⟩ := own_shape1 how2)
                  go_roundw
                  case rel =>
                    have hq := HQ.out
                    refine ⟨q + 1, k, pm2, acc ++ [NN], by simp, ?_, ?_, by omega, by simp; omega, by have := hq.2.2.2.1; simp at this ⊢; omega, HN2.out.1, fun h => by omega, HN2.out.2⟩
                    · have e : ivs (acc ++ [NN]) = ivs acc ++ [.int .i64 NN] := by simp [ivs]
                      rw [e]
                      simpa using how2
                    · have hba := HB.out.alloc HB.out.size (.cells #[.int .i64 NN] 3)
                      exact hba.grown hgr2 (by simp; have := HB.out.size; omega) (fun r e => own_ge1 HOW.out r e)
                  case measure => have hq := HQ.out; simp [intOf]; omega
            | false =>
              have e1 := e0.symm
              clear e0
              go_wp2
              go_loopw [4, 6] (fun x y w9 => ∃ q n : Nat, x = .int .i64 (q : Int) ∧ y = .int .i64 (n : Int) ∧ w9 = wr ∧ p ≤ q ∧ q ≤ S.size ∧ n ≤ 10995116277779 ∧ digL n (l.drop q) = digL 0 (l.drop p)) (fun x _ _ => S.size + 1 - (intOf x).toNat)
              case atStart => exact ⟨p, 0, rfl, rfl, rfl, Nat.le_refl _, by omega, by omega, rfl⟩
              case round =>
                obtain ⟨q, n, rfl, rfl, hw9, hpq, hqs, hn9, hdg⟩ := hrel
                subst hw9
                by_cases hq : q < S.size
                · have hql : q < l.length := by omega
                  obtain ⟨d, hdd⟩ : ∃ d, d = l[q] := ⟨_, rfl⟩
                  have hiq : S[q] = d := by
                    have h := bt_get S q hq (by rw [← HL.out.1]; exact hql)
                    rw [h, hdd]
                    simp only [HL.out.1]
                  rw [drop_cons l q hql, ← hdd] at hdg
                  have hqi : (q : Int) < (S.size : Int) := by omega
                  obtain ⟨dn, hdn⟩ : ∃ z : Nat, z = d.toNat := ⟨_, rfl⟩
                  have hiq2 : S[q].toNat = dn := by rw [hiq, hdn]
                  by_cases hg : isDig d = true
                  · have hg2 := (dig_iff d).1 hg
                    rw [← hdn] at hg2
                    have g1 : (48 : Int) ≤ (dn : Int) := by omega
                    have g2 : (dn : Int) ≤ 57 := by omega
                    by_cases hbig : n < 1099511627776
                    · have g3 : (n : Int) < 1099511627776 := by omega
                      rw [digL, hg, show decide (n < 1099511627776) = true from decide_eq_true hbig] at hdg
                      obtain ⟨m, hm⟩ : ∃ m : Nat, m = n * 10 + (dn - 48) := ⟨_, rfl⟩
                      have hm2 : (n : Int) * 10 + ((dn : Int) - 48) = (m : Int) := by omega
                      have HDG : Hid (digL m (l.drop (q + 1)) = digL 0 (l.drop p)) := by rw [hm, hdn]; exact hdg
                      have HMM : Hid (m ≤ 10995116277779 ∧ p ≤ q ∧ q < S.size) := ⟨by omega, hpq, hq⟩
                      clear hdg hdd hiq hdn hm hg
                      go_wp2
                      go_roundw
                      case rel => exact ⟨q + 1, m, by simp, by first | rfl | simp, by first | rfl | trivial, by have := HMM.out; omega, by have := HMM.out; omega, HMM.out.1, HDG.out⟩
                      case measure => have := HMM.out; simp [intOf]; omega
                    · have g4 : decide ((n : Int) < 1099511627776) = false := decide_eq_false (by omega)
                      have g5 : decide (n < 1099511627776) = false := decide_eq_false hbig
                      obtain ⟨pm2, hn2, hp2⟩ := num_next h5 hd HNUM.out (q := q) (n := n) (by rw [← HDP.out, ← hdg]; rw [drop_cons l q hql, ← hdd, digL, show decide (n < 1099511627776) = false from decide_eq_false hbig]; simp)
                      obtain ⟨NN, hNN⟩ : ∃ z : Int, z = sgnI false n := ⟨_, rfl⟩
                      rw [← hNN] at hn2
                      have hNv : (n : Int) = NN := by rw [hNN]; rfl
                      have HN2 : Hid (numF k pm2 (l.drop (q + 1)) (acc ++ [NN]) = T ∧ ∀ (r : Nat) (hr : r < l.length), q + 1 = r + 1 → pm2 = (l[r] == 45)) := ⟨hn2, hp2⟩
                      have HQ : Hid (p ≤ q ∧ q ≤ S.size ∧ n ≤ 10995116277779 ∧ (l.drop (p + 1)).length + 1 ≤ k ∧ l.length = S.size ∧ acc.length < 5) := ⟨hpq, hqs, hn9, HK.out, hll, h5⟩
                      have g6 : decide ((NN : Int) < 1099511627776) = false := by rw [← hNv]; exact g4
                      clear hdd hiq hdn hg hbig
                      clear hn2 hp2 hdg hNN hpq
                      go_wp2_with (at_builtin; refine wpList_append_own _ rfl (.tmp 70) (.tmp 72) 48 rfl w.heap.size 3 i0 _ 1 8 Tryz.underlying48 HI.out.1 HI.out.2.1 HI.out.2.2.1 HI.out.2.2.2 rfl (by decide) _ _ _ rfl (own_alloc1 HOW.out _) ⟨wr.heap.size, 0, none⟩ 1 1 [.int .i64 NN] rfl rfl (cells1 wr _ _) (by intro u hu; rw [show u = .int .i64 NN by simpa using hu]; rfl) (by have := HQ.out; unfold maxLen; omega) (by have := HQ.out; omega) (by have := HB.out.size; simp; omega) ?_; intro sv w2 how2 hgr2 _; obtain ⟨sa2, sc2, rfl⟩ := own_shape1 how2)
                      go_roundw
                      case rel =>
                        have hq := HQ.out
                        refine ⟨q + 1, k, pm2, acc ++ [NN], by simp, ?_, ?_, by omega, by simp; omega, by have := hq.2.2.2.1; simp at this ⊢; omega, HN2.out.1, fun h => by omega, HN2.out.2⟩
                        · have e : ivs (acc ++ [NN]) = ivs acc ++ [.int .i64 NN] := by simp [ivs]
                          rw [e]
                          simpa using how2
                        · have hba := HB.out.alloc HB.out.size (.cells #[.int .i64 NN] 3)
                          exact hba.grown hgr2 (by simp; have := HB.out.size; omega) (fun r e => own_ge1 HOW.out r e)
                      case measure => have hq := HQ.out; simp [intOf]; omega
                  · have hgn : ¬ (48 ≤ dn ∧ dn ≤ 57) := by rw [hdn]; exact fun h => hg ((dig_iff d).2 h)
                    have hgf : isDig d = false := by simpa using hg
                    by_cases ha : 48 ≤ dn
                    · have g1 : (48 : Int) ≤ (dn : Int) := by omega
                      have g2 : ¬ (dn : Int) ≤ 57 := by omega
                      have g3 : decide ((dn : Int) ≤ 57) = false := decide_eq_false g2
                      obtain ⟨pm2, hn2, hp2⟩ := num_next h5 hd HNUM.out (q := q) (n := n) (by rw [← HDP.out, ← hdg]; rw [drop_cons l q hql, ← hdd, digL, hgf]; simp)
                      obtain ⟨NN, hNN⟩ : ∃ z : Int, z = sgnI false n := ⟨_, rfl⟩
                      rw [← hNN] at hn2
                      have hNv : (n : Int) = NN := by rw [hNN]; rfl
                      have HN2 : Hid (numF k pm2 (l.drop (q + 1)) (acc ++ [NN]) = T ∧ ∀ (r : Nat) (hr : r < l.length), q + 1 = r + 1 → pm2 = (l[r] == 45)) := ⟨hn2, hp2⟩
                      have HQ : Hid (p ≤ q ∧ q ≤ S.size ∧ n ≤ 10995116277779 ∧ (l.drop (p + 1)).length + 1 ≤ k ∧ l.length = S.size ∧ acc.length < 5) := ⟨hpq, hqs, hn9, HK.out, hll, h5⟩
                      clear hdd hiq hdn hg hgf hgn
                      clear hn2 hp2 hdg hNN hpq
                      go_wp2_with (at_builtin; refine wpList_append_own _ rfl (.tmp 70) (.tmp 72) 48 rfl w.heap.size 3 i0 _ 1 8 Tryz.underlying48 HI.out.1 HI.out.2.1 HI.out.2.2.1 HI.out.2.2.2 rfl (by decide) _ _ _ rfl (own_alloc1 HOW.out _) ⟨wr.heap.size, 0, none⟩ 1 1 [.int .i64 NN] rfl rfl (cells1 wr _ _) (by intro u hu; rw [show u = .int .i64 NN by simpa using hu]; rfl) (by have := HQ.out; unfold maxLen; omega) (by have := HQ.out; omega) (by have := HB.out.size; simp; omega) ?_; intro sv w2 how2 hgr2 _; obtain ⟨sa2, sc2, rfl⟩ := own_shape1 how2)
                      go_roundw
                      case rel =>
                        have hq := HQ.out
                        refine ⟨q + 1, k, pm2, acc ++ [NN], by simp, ?_, ?_, by omega, by simp; omega, by have := hq.2.2.2.1; simp at this ⊢; omega, HN2.out.1, fun h => by omega, HN2.out.2⟩
                        · have e : ivs (acc ++ [NN]) = ivs acc ++ [.int .i64 NN] := by simp [ivs]
                          rw [e]
                          simpa using how2
                        · have hba := HB.out.alloc HB.out.size (.cells #[.int .i64 NN] 3)
                          exact hba.grown hgr2 (by simp; have := HB.out.size; omega) (fun r e => own_ge1 HOW.out r e)
                      case measure => have hq := HQ.out; simp [intOf]; omega
                    · have g1 : ¬ (48 : Int) ≤ (dn : Int) := by omega
                      have g3 : decide ((48 : Int) ≤ (dn : Int)) = false := decide_eq_false g1
                      obtain ⟨pm2, hn2, hp2⟩ := num_next h5 hd HNUM.out (q := q) (n := n) (by rw [← HDP.out, ← hdg]; rw [drop_cons l q hql, ← hdd, digL, hgf]; simp)
                      obtain ⟨NN, hNN⟩ : ∃ z : Int, z = sgnI false n := ⟨_, rfl⟩
                      rw [← hNN] at hn2
                      have hNv : (n : Int) = NN := by rw [hNN]; rfl
                      have HN2 : Hid (numF k pm2 (l.drop (q + 1)) (acc ++ [NN]) = T ∧ ∀ (r : Nat) (hr : r < l.length), q + 1 = r + 1 → pm2 = (l[r] == 45)) := ⟨hn2, hp2⟩
                      have HQ : Hid (p ≤ q ∧ q ≤ S.size ∧ n ≤ 10995116277779 ∧ (l.drop (p + 1)).length + 1 ≤ k ∧ l.length = S.size ∧ acc.length < 5) := ⟨hpq, hqs, hn9, HK.out, hll, h5⟩
                      clear hdd hiq hdn hg hgf hgn
                      clear hn2 hp2 hdg hNN hpq
                      go_wp2_with (at_builtin; refine wpList_append_own _ rfl (.tmp 70) (.tmp 72) 48 rfl w.heap.size 3 i0 _ 1 8 Tryz.underlying48 HI.out.1 HI.out.2.1 HI.out.2.2.1 HI.out.2.2.2 rfl (by decide) _ _ _ rfl (own_alloc1 HOW.out _) ⟨wr.heap.size, 0, none⟩ 1 1 [.int .i64 NN] rfl rfl (cells1 wr _ _) (by intro u hu; rw [show u = .int .i64 NN by simpa using hu]; rfl) (by have := HQ.out; unfold maxLen; omega) (by have := HQ.out; omega) (by have := HB.out.size; simp; omega) ?_; intro sv w2 how2 hgr2 _; obtain ⟨sa2, sc2, rfl⟩ := own_shape1 how2)
                      go_roundw
                      case rel =>
                        have hq := HQ.out
                        refine ⟨q + 1, k, pm2, acc ++ [NN], by simp, ?_, ?_, by omega, by simp; omega, by have := hq.2.2.2.1; simp at this ⊢; omega, HN2.out.1, fun h => by omega, HN2.out.2⟩
                        · have e : ivs (acc ++ [NN]) = ivs acc ++ [.int .i64 NN] := by simp [ivs]
                          rw [e]
                          simpa using how2
                        · have hba := HB.out.alloc HB.out.size (.cells #[.int .i64 NN] 3)
                          exact hba.grown hgr2 (by simp; have := HB.out.size; omega) (fun r e => own_ge1 HOW.out r e)
                      case measure => have hq := HQ.out; simp [intOf]; omega
                · have hqi : ¬ (q : Int) < (S.size : Int) := by omega
                  have hqj : decide ((q : Int) < (S.size : Int)) = false := decide_eq_false hqi
                  obtain ⟨pm2, hn2, hp2⟩ := num_next h5 hd HNUM.out (q := q) (n := n) (by rw [← HDP.out, ← hdg]; rw [List.drop_eq_nil_of_le (show l.length ≤ q by omega)]; rfl)
                  obtain ⟨NN, hNN⟩ : ∃ z : Int, z = sgnI false n := ⟨_, rfl⟩
                  rw [← hNN] at hn2
                  have hNv : (n : Int) = NN := by rw [hNN]; rfl
                  have HN2 : Hid (numF k pm2 (l.drop (q + 1)) (acc ++ [NN]) = T ∧ ∀ (r : Nat) (hr : r < l.length), q + 1 = r + 1 → pm2 = (l[r] == 45)) := ⟨hn2, hp2⟩
                  have HQ : Hid (p ≤ q ∧ q ≤ S.size ∧ n ≤ 10995116277779 ∧ (l.drop (p + 1)).length + 1 ≤ k ∧ l.length = S.size ∧ acc.length < 5) := ⟨hpq, hqs, hn9, HK.out, hll, h5⟩

                  clear hn2 hp2 hdg hNN hpq
                  go_wp2_with (at_builtin; refine wpList_append_own _ rfl (.tmp 70) (.tmp 72) 48 rfl w.heap.size 3 i0 _ 1 8 Tryz.underlying48 HI.out.1 HI.out.2.1 HI.out.2.2.1 HI.out.2.2.2 rfl (by decide) _ _ _ rfl (own_alloc1 HOW.out _) ⟨wr.heap.size, 0, none⟩ 1 1 [.int .i64 NN] rfl rfl (cells1 wr _ _) (by intro u hu; rw [show u = .int .i64 NN by simpa using hu]; rfl) (by have := HQ.out; unfold maxLen; omega) (by have := HQ.out; omega) (by have := HB.out.size; simp; omega) ?_; intro sv w2 how2 hgr2 _; obtain ⟨sa2, sc2, rfl⟩ := own_shape1 how2)
                  go_roundw
                  case rel =>
                    have hq := HQ.out
                    refine ⟨q + 1, k, pm2, acc ++ [NN], by simp, ?_, ?_, by omega, by simp; omega, by have := hq.2.2.2.1; simp at this ⊢; omega, HN2.out.1, fun h => by omega, HN2.out.2⟩
                    · have e : ivs (acc ++ [NN]) = ivs acc ++ [.int .i64 NN] := by simp [ivs]
                      rw [e]
                      simpa using how2
                    · have hba := HB.out.alloc HB.out.size (.cells #[.int .i64 NN] 3)
                      exact hba.grown hgr2 (by simp; have := HB.out.size; omega) (fun r e => own_ge1 HOW.out r e)
                  case measure => have hq := HQ.out; simp [intOf]; omega
        · have hgn : ¬ (48 ≤ cn ∧ cn ≤ 57) := by rw [hcn]; exact fun h => hd ((dig_iff c).2 h)
          have hdf : isDig c = false := by simpa using hd
          have HN2 : Hid (numF k (c == 45) (l.drop (p + 1)) acc = T) := by
            have h := HNUM.out
            rw [numF, if_neg (by omega), if_neg (by rw [hdf]; decide)] at h
            exact h
          have HPM : Hid (∀ (q : Nat) (hq : q < l.length), p + 1 = q + 1 → (c == 45) = (l[q] == 45)) := by
            intro q hq e
            have : q = p := by omega
            subst this
            rw [hc]
          by_cases ha : cn < 48
          · have g1 : (cn : Int) < 48 := by omega
            clear hp0 hpm hc hix hcn hd hdf hgn
            go_wp2
            go_roundw
            case rel => exact ⟨p + 1, k, _, acc, by simp, HOW.out, HB.out, by omega, hac, HK.out, HN2.out, fun h => by omega, HPM.out⟩
            case measure => simp [intOf]; omega
          · have g1 : ¬ (cn : Int) < 48 := by omega
            have g2 : (57 : Int) < (cn : Int) := by omega
            have g3 : decide ((cn : Int) < 48) = false := decide_eq_false g1
            clear hp0 hpm hc hix hcn hd hdf hgn
            go_wp2
            go_roundw
            case rel => exact ⟨p + 1, k, _, acc, by simp, HOW.out, HB.out, by omega, hac, HK.out, HN2.out, fun h => by omega, HPM.out⟩
            case measure => simp [intOf]; omega
      · have e : T = acc := by rw [← hnum]; exact numF_end (by omega)
        have HE : Hid (T = acc) := e
        have hi1 : (p : Int) < (S.size : Int) := by omega
        have hi2 : decide ((acc.length : Int) < 5) = false := decide_eq_false (by omega)
        have hi3 : decide (acc.length < 5) = false := decide_eq_false h5
        clear hnum hpm e hp0
        go_wp2
        refine HP.out _ _ (by rw [HE.out]; exact HOW.out) (by rw [HE.out]; omega) HB.out
    · have e : T = acc := by rw [← hnum, List.drop_eq_nil_of_le (by omega)]; exact numF_nil _ _ _
      have HE : Hid (T = acc) := e
      have hi1 : decide ((p : Int) < (S.size : Int)) = false := decide_eq_false (by omega)
      have hi2 : ¬ (p : Int) < (S.size : Int) := by omega
      clear hnum hpm e hp0
      go_wp2
      refine HP.out _ _ (by rw [HE.out]; exact HOW.out) (by rw [HE.out]; omega) HB.out
end Go.Proofs.YtglkkeelocdanaaGreatDoor
