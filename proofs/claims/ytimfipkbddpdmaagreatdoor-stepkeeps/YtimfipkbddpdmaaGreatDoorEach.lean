import Derived.OrdersHeld
import Derived.Deep.RegionHeld3
import Derived.BigQuiet
import Derived.Below
import Derived.Test.YtimfipkbddpdmaaGreatDoorLast
import Derived.OrdersIn
set_option linter.unusedVariables false
set_option linter.unusedSimpArgs false
set_option maxRecDepth 100000
open Go Go.RowKit
namespace Go.Proofs.YtimfipkbddpdmaaGreatDoor
section
variable {P : Program} {ops : Array Oper} {Q : Exit -> Act -> World -> Prop}
def slotJ (ops : Array Oper) (A : Act) (j : Nat) : Value := match (ops[j]?).bind (·.dst) with | some d => A.tmps.getD d undef | none => undef
def ownSlot (ops : Array Oper) (t : Nat) : Bool := ops.any (fun o => o.dst == some t)
def eachB (ops : Array Oper) (n : Nat) : Bool :=
 (List.range ops.size).all (fun i => match ops[i]? with
  | some o => o.after.all (fun e => !Region.binds .any e || decide (e.on < i)) && (match o.dst with | some d => decide (d < n) && (List.range i).all (fun j => match ops[j]? with | some o' => o'.dst != some d | none => true) | none => true)
  | none => true)
structure EachI (ops : Array Oper) (V : Nat -> Value -> World -> Prop) (R : World -> World -> Prop) (a : Act) (W : World) (listed : Array Bool) (A : Act) (w : World) : Prop where
 rel : R W w
 defers : A.defers = a.defers
 size : A.tmps.size = a.tmps.size
 out : ∀ t, ownSlot ops t = false -> A.tmps.getD t undef = a.tmps.getD t undef
 val : ∀ j, listed.getD j false = true -> V j (slotJ ops A j) w
theorem eachB_after {n i : Nat} {o : Oper} (h : eachB ops n = true) (ho : ops[i]? = some o) : ∀ e ∈ o.after, Region.binds .any e = true -> e.on < i := by
 unfold eachB at h
 have hi : i < ops.size := (Array.getElem?_eq_some_iff.1 ho).1
 have h1 := List.all_eq_true.1 h i (List.mem_range.2 hi)
 simp only [ho, Bool.and_eq_true, Array.all_eq_true_iff_forall_mem, decide_eq_true_eq, Bool.or_eq_true] at h1
 intro e he hb
 rcases h1.1 e he with h2 | h2
 ·rw [hb] at h2; cases h2
 ·exact h2
theorem eachB_lt {n i d : Nat} {o : Oper} (h : eachB ops n = true) (ho : ops[i]? = some o) (hd : o.dst = some d) : d < n := by
 unfold eachB at h
 have hi : i < ops.size := (Array.getElem?_eq_some_iff.1 ho).1
 have h1 := List.all_eq_true.1 h i (List.mem_range.2 hi)
 simp only [ho, hd, Bool.and_eq_true, decide_eq_true_eq] at h1
 exact h1.2.1
theorem eachB_ne {n i j d : Nat} {o o' : Oper} (h : eachB ops n = true) (ho : ops[i]? = some o) (hd : o.dst = some d) (hji : j ≠ i) (ho' : ops[j]? = some o') : o'.dst ≠ some d := by
 unfold eachB at h
 have hi : i < ops.size := (Array.getElem?_eq_some_iff.1 ho).1
 have hj : j < ops.size := (Array.getElem?_eq_some_iff.1 ho').1
 rcases Nat.lt_or_gt_of_ne hji with hlt | hgt
 ·have h1 := List.all_eq_true.1 h i (List.mem_range.2 hi)
  simp only [ho, hd, Bool.and_eq_true, decide_eq_true_eq] at h1
  have h2 := List.all_eq_true.1 h1.2.2 j (List.mem_range.2 hlt)
  simpa [ho'] using h2
 ·intro he
  have h1 := List.all_eq_true.1 h j (List.mem_range.2 hj)
  simp only [ho', he, Bool.and_eq_true, decide_eq_true_eq] at h1
  have h2 := List.all_eq_true.1 h1.2.2 i (List.mem_range.2 hgt)
  simp [ho, hd] at h2
theorem put_size (A : Act) (d : Option Tmp) (v : Value) : (A.put d v).tmps.size = A.tmps.size := by
 cases d <;> simp [Act.put]
theorem put_defers' (A : Act) (d : Option Tmp) (v : Value) : (A.put d v).defers = A.defers := by
 cases d <;> rfl
theorem put_getD_ne (A : Act) {d : Option Tmp} {t : Nat} (v : Value) (h : d ≠ some t) : (A.put d v).tmps.getD t undef = A.tmps.getD t undef := by
 cases d with
 | none => rfl
 | some d =>
  have : d ≠ t := fun e => h (by rw [e])
  simp [Act.put, Array.getElem?_setIfInBounds, this]
theorem put_getD_self (A : Act) {d : Nat} (v : Value) (h : d < A.tmps.size) : (A.put (some d) v).tmps.getD d undef = v := by
 simp [Act.put, h]
theorem slotJ_put_ne {n i j : Nat} {o : Oper} {A : Act} (h : eachB ops n = true) (ho : ops[i]? = some o) (hji : j ≠ i) (v : Value) : slotJ ops (A.put o.dst v) j = slotJ ops A j := by
 unfold slotJ
 cases hj : ops[j]? with
 | none => simp
 | some o' =>
  cases hd' : o'.dst with
  | none => simp [hd']
  | some d' =>
   simp only [Option.bind_some, hd']
   exact put_getD_ne A v (fun e => eachB_ne h ho e hji hj hd')
theorem slotJ_put_self {n i : Nat} {o : Oper} {A : Act} (h : eachB ops n = true) (hn : A.tmps.size = n) (ho : ops[i]? = some o) (v : Value) : slotJ ops (A.put o.dst v) i = if o.dst.isSome then v else undef := by
 unfold slotJ
 cases hd : o.dst with
 | none => simp [ho, hd]
 | some d =>
  simp only [ho, hd, Option.bind_some, Option.isSome_some, if_true]
  exact put_getD_self A v (by rw [hn]; exact eachB_lt h ho hd)
theorem putAll_go {n : Nat} (h : eachB ops n = true) (f : Nat -> Value) (a : Act) (hn : a.tmps.size = n) : ∀ m, m <= ops.size ->
  let A := (List.range m).foldl (fun A j => A.put ((ops[j]?).bind (·.dst)) (f j)) a
  A.tmps.size = n /\ A.defers = a.defers /\ (∀ t, (∀ j o, j < m -> ops[j]? = some o -> o.dst ≠ some t) -> A.tmps.getD t undef = a.tmps.getD t undef) /\ (∀ j o d, j < m -> ops[j]? = some o -> o.dst = some d -> A.tmps.getD d undef = f j) := by
 intro m
 induction m with
 | zero => intro _; exact ⟨hn, rfl, fun _ _ => rfl, fun _ _ _ h => absurd h (Nat.not_lt_zero _)⟩
 | succ m ih =>
  intro hm
  have ih := ih (by omega)
  have ho : ops[m]? = some ops[m] := Array.getElem?_eq_getElem (by omega)
  simp only [List.range_succ, List.foldl_append, List.foldl_cons, List.foldl_nil] at ih |-
  generalize (List.range m).foldl (fun A j => A.put ((ops[j]?).bind (·.dst)) (f j)) a = A at ih |-
  obtain ⟨h1, h2, h3, h4⟩ := ih
  simp only [ho, Option.bind_some]
  refine ⟨by rw [put_size, h1], by rw [put_defers', h2], fun t ht => ?_, fun j o d hj hoj hd => ?_⟩
  ·rw [put_getD_ne A _ (ht m _ (by omega) ho)]
   exact h3 t (fun j o hj => ht j o (by omega))
  ·by_cases e : j = m
   ·subst e
    rw [ho] at hoj; cases hoj
    rw [hd]
    exact put_getD_self A _ (by rw [h1]; exact eachB_lt h ho hd)
   ·rw [put_getD_ne A _ (eachB_ne h hoj hd (fun e' => e e'.symm) ho)]
    exact h4 j o d (by omega) hoj hd
theorem act_ext {A B : Act} (h1 : A.tmps.size = B.tmps.size) (h2 : A.defers = B.defers) (h3 : ∀ t, A.tmps.getD t undef = B.tmps.getD t undef) : A = B := by
 cases A with | mk s ds => cases B with | mk s' ds' =>
 simp only at h1 h2 h3
 rw [h2]
 congr 1
 refine Array.ext h1 (fun i hi hi' => ?_)
 have := h3 i
 simpa [hi, hi'] using this
structure Know (R : World -> World -> Prop) where
 t : Nat
 p : Value -> World -> Prop
 st : ∀ v w w', R w w' -> p v w -> p v w'
def knowAt {R : World -> World -> Prop} : List (Know R) -> Nat -> Value -> World -> Prop
 | [], _, _, _ => True
 | k :: l, t, v, w => bif Nat.beq t k.t then k.p v w else knowAt l t v w
theorem knowAt_st {R : World -> World -> Prop} : ∀ (l : List (Know R)) (t : Nat) (v : Value) (w w' : World), R w w' -> knowAt l t v w -> knowAt l t v w'
 | [], _, _, _, _, _, _ => trivial
 | k :: l, t, v, w, w', hR, h => by
  unfold knowAt at h |-
  cases c : Nat.beq t k.t with
  | true => rw [c] at h; exact k.st v w w' hR h
  | false => rw [c] at h; exact knowAt_st l t v w w' hR h
def waitsB (ops : Array Oper) (o : Oper) (t : Nat) : Bool := o.after.any (fun e => Region.binds .any e && ((ops[e.on]?).bind (·.dst) == some t))
def EachOp (P : Program) (ops : Array Oper) (Q : Exit -> Act -> World -> Prop) {R : World -> World -> Prop} (L : List (Know R)) (a : Act) (W : World) (o : Oper) : Prop :=
 ∀ (A : Act) (w : World), R W w -> (∀ t, ownSlot ops t = false -> A.tmps[t]?.getD undef = a.eval (.tmp t)) -> (∀ t, waitsB ops o t = true -> knowAt L t (A.tmps[t]?.getD undef) w) ->
  ∀ K : Act -> World -> Prop, Shut (∀ v w', R w w' -> (match o.dst with | some d => knowAt L d v w' | none => True) -> K (A.put o.dst v) w') -> if Region.wanted o (yielded ops A.tmps) = true then Oper.wp P o A w K Q else K (A.put o.dst undef) w
def EachOps (P : Program) (ops : Array Oper) (Q : Exit -> Act -> World -> Prop) {R : World -> World -> Prop} (L : List (Know R)) (a : Act) (W : World) : List Oper -> Prop
 | [] => True
 | o :: l => EachOp P ops Q L a W o /\ EachOps P ops Q L a W l
theorem EachOps.get {R : World -> World -> Prop} {L : List (Know R)} {a : Act} {W : World} : ∀ {l : List Oper} {i : Nat} {o : Oper}, EachOps P ops Q L a W l -> l[i]? = some o -> EachOp P ops Q L a W o
 | [], _, _, _, h => by simp at h
 | x :: l, 0, o, h, e => by simp at e; exact e ▸ h.1
 | x :: l, i + 1, o, h, e => EachOps.get h.2 (by simpa using e)
def putSl (f : Nat -> Value) : List Oper -> Act -> Act
 | [], a => a
 | o :: l, a => putSl f l (match o.dst with | some d => a.put (some d) (f d) | none => a)
theorem putSl_eq (f : Nat -> Value) : ∀ (l : List Oper) (a : Act), putSl f l a = l.foldl (fun (A : Act) (o : Oper) => match o.dst with | some d => A.put (some d) (f d) | none => A) a
 | [], _ => rfl
 | o :: l, a => putSl_eq f l _
theorem foldl_range {α β : Type} (l : List α) (g : β -> Option α -> β) (b : β) : ∀ m, m <= l.length -> (List.range m).foldl (fun b j => g b l[j]?) b = (l.take m).foldl (fun b o => g b (some o)) b
 | 0, _ => rfl
 | m + 1, h => by
  rw [List.range_succ, List.foldl_append, foldl_range l g b m (by omega), List.take_add_one, List.foldl_append, List.getElem?_eq_getElem (by omega)]
  simp [List.getElem?_eq_getElem (show m < l.length by omega)]
def putM (ops : Array Oper) (m : Nat) (f : Nat -> Value) (a : Act) : Act := (List.range m).foldl (fun A j => A.put ((ops[j]?).bind (·.dst)) (f j)) a
theorem putM_sl (l : List Oper) (a A : Act) (m : Nat) (hm : m <= l.length) : putM l.toArray m (slotJ l.toArray A) a = putSl (fun t => A.eval (.tmp t)) (l.take m) a := by
 rw [putSl_eq]
 have h := foldl_range l (fun (b : Act) oo => match oo.bind (·.dst) with | some d => b.put (some d) (A.eval (.tmp d)) | none => b) a m hm
 simp only [Option.bind_some] at h
 rw [<- h]
 unfold putM
 congr 1
 funext b j
 simp only [slotJ, List.getElem?_toArray]
 cases (l[j]?).bind (·.dst) <;> rfl
theorem EachOps.take {R : World -> World -> Prop} {L : List (Know R)} {a : Act} {W : World} : ∀ {l : List Oper} {i m : Nat} {o : Oper}, EachOps P ops Q L a W (l.take m) -> i < m -> l[i]? = some o -> EachOp P ops Q L a W o := fun h hi e =>
 EachOps.get h (by rw [List.getElem?_take_of_lt hi]; exact e)
theorem if_yes {c : Prop} [Decidable c] {a b : Prop} (h : c) (ha : a) : if c then a else b := by rw [if_pos h]; exact ha
theorem if_not {c : Prop} [Decidable c] {a b : Prop} (h : ¬ c) (ha : b) : if c then a else b := by rw [if_neg h]; exact ha
abbrev Ext (w w' : World) : Prop := Below w.heap.size w w'
theorem wanted_is {o : Oper} {A : Act} {j t : Nat} {b c : Bool} (hg : o.guard = some (j, b)) (hd : (ops[j]?).bind (·.dst) = some t) (hv : A.tmps[t]?.getD undef = .bool c) : Region.wanted o (yielded ops A.tmps) = (c == b) := by
 have h1 : A.tmps[t]? = some (.bool c) := by
  have : A.tmps.getD t undef = .bool c := by rw [Array.getD_eq_getD_getElem?]; exact hv
  rcases Nat.lt_or_ge t A.tmps.size with h | h
  ·simpa [h] using this
  ·simp [Array.getElem?_eq_none h] at this; cases this
 unfold Region.wanted yielded
 simp [hg, hd, h1]
end
end Go.Proofs.YtimfipkbddpdmaaGreatDoor
namespace Go.Proofs.YtimfipkbddpdmaaGreatDoor
section
variable {ops : Array Oper}
def ownM (ops : Array Oper) (m t : Nat) : Bool := (List.range m).any (fun i => (ops[i]?).bind (·.dst) == some t)
theorem ownM_of {m i d : Nat} {o : Oper} (hi : i < m) (ho : ops[i]? = some o) (hd : o.dst = some d) : ownM ops m d = true :=
 List.any_eq_true.2 ⟨i, List.mem_range.2 hi, by simp [ho, hd]⟩
theorem ownM_is {m t : Nat} (h : ownM ops m t = true) : ∃ i, i < m /\ (ops[i]?).bind (·.dst) = some t := by
 obtain ⟨i, hi, e⟩ := List.any_eq_true.1 h
 exact ⟨i, List.mem_range.1 hi, by simpa using e⟩
structure EachM (ops : Array Oper) (m : Nat) (V : Nat -> Value -> World -> Prop) (R : World -> World -> Prop) (a : Act) (W : World) (listed : Array Bool) (A : Act) (w : World) : Prop where
 rel : R W w
 defers : A.defers = a.defers
 size : A.tmps.size = a.tmps.size
 out : ∀ t, ownM ops m t = false -> A.tmps.getD t undef = a.tmps.getD t undef
 val : ∀ j, j < m -> listed.getD j false = true -> V j (slotJ ops A j) w
def waitsFor (ops : Array Oper) (i : Nat) : Nat -> Nat -> Bool
 | 0, _ => false
 | fuel + 1, j => match ops[j]? with | some o => o.after.any (fun e => Region.binds .any e && (e.on == i || waitsFor ops i fuel e.on)) | none => false
def cutB (ops : Array Oper) (m : Nat) : Bool := (List.range ops.size).all (fun j => decide (j < m) || (List.range m).all (fun i => waitsFor ops i ops.size j))
def Closed (ops : Array Oper) (listed : Array Bool) : Prop := ∀ j, listed.getD j false = true -> ∀ o, ops[j]? = some o -> ∀ e ∈ o.after, Region.binds .any e = true -> listed.getD e.on false = true
theorem getD_set {listed : Array Bool} {i j : Nat} (h : listed.getD j false = true) : (listed.setIfInBounds i true).getD j false = true := by
 by_cases e : i = j
 ·subst e
  have : i < listed.size := by
   rcases Nat.lt_or_ge i listed.size with h' | h'
   ·exact h'
   ·rw [Array.getD_eq_getD_getElem?, Array.getElem?_eq_none h'] at h; cases h
  simp [this]
 ·rw [getD_set_ne false e]; exact h
theorem Closed.set {listed : Array Bool} {i : Nat} {o : Oper} (h : Closed ops listed) (ho : ops[i]? = some o) (hd : ∀ e ∈ o.after, Region.binds .any e = true -> listed.getD e.on false = true) : Closed ops (listed.setIfInBounds i true) := fun j hj o' ho' e he hb => by
 refine getD_set ?_
 by_cases c : i = j
 ·subst c; rw [ho] at ho'; cases ho'; exact hd e he hb
 ·rw [getD_set_ne false c] at hj; exact h j hj o' ho' e he hb
theorem waitsFor_is {listed : Array Bool} {i : Nat} (hcl : Closed ops listed) : ∀ (fuel j : Nat), waitsFor ops i fuel j = true -> (∀ o, ops[j]? = some o -> ∀ e ∈ o.after, Region.binds .any e = true -> listed.getD e.on false = true) -> listed.getD i false = true
 | 0, _, h, _ => by simp [waitsFor] at h
 | fuel + 1, j, h, hd => by
  unfold waitsFor at h
  cases ho : ops[j]? with
  | none => rw [ho] at h; cases h
  | some o =>
   rw [ho] at h
   simp only [Array.any_eq_true', Bool.and_eq_true, Bool.or_eq_true, beq_iff_eq] at h
   obtain ⟨e, he, hb, h⟩ := h
   have hl := hd o ho e he hb
   rcases h with h | h
   ·rw [h] at hl; exact hl
   ·exact waitsFor_is hcl fuel e.on h (fun o' ho' => hcl e.on hl o' ho')
theorem cutB_waits {listed : Array Bool} {m i j : Nat} {o : Oper} (h : cutB ops m = true) (hcl : Closed ops listed) (him : m <= i) (his : i < ops.size) (hd : ∀ e ∈ o.after, Region.binds .any e = true -> listed.getD e.on false = true) (ho : ops[i]? = some o) (hj : j < m) : listed.getD j false = true := by
 unfold cutB at h
 simp only [List.all_eq_true, List.mem_range, Bool.or_eq_true, decide_eq_true_eq] at h
 rcases h i his with h1 | h1
 ·omega
 ·exact waitsFor_is hcl ops.size i (h1 j hj) (fun o' ho' => by rw [ho] at ho'; cases ho'; exact hd)
theorem ready_nil {n : Nat} {listed : Array Bool} (hB : eachB ops n = true) (hs : listed.size = ops.size) (hr : Region.ready .any ops listed = []) : ∀ k j, j < k -> j < ops.size -> listed.getD j false = true := by
 intro k
 induction k with
 | zero => intro j h; omega
 | succ k ihm =>
  intro j hj hjs
  have hjl : j < listed.size := by omega
  have h1 := List.filter_eq_nil_iff.1 hr j (List.mem_range.2 hjs)
  have ho : ops[j]? = some ops[j] := Array.getElem?_eq_getElem hjs
  have h2 : (ops[j].after.all fun e => !Region.binds .any e || listed.getD e.on false) = true := by
   refine Array.all_eq_true_iff_forall_mem.2 (fun e he => ?_)
   by_cases hb : Region.binds .any e = true
   ·have := eachB_after hB ho e he hb
    rw [ihm e.on (by omega) (by omega)]; simp
   ·simp [hb]
  simp only [ho, Option.map_some, Option.getD_some, h2, Bool.and_true] at h1
  simpa [hjl] using h1
def cutArr (n m : Nat) : Array Bool := (List.replicate m true ++ List.replicate (n - m) false).toArray
theorem cut_at {listed : Array Bool} {m : Nat} (hs : listed.size = ops.size) (hm : m <= ops.size) (h1 : ∀ j, j < m -> listed.getD j false = true) (h2 : ∀ j, m <= j -> j < ops.size -> listed.getD j true = false) : listed = cutArr ops.size m /\ listed.toList.count false = ops.size - m := by
 have e : listed = cutArr ops.size m := by
  refine Array.ext (by simp [cutArr, hs]; omega) (fun j hj hj' => ?_)
  by_cases c : j < m
  ·have := h1 j c
   simp [hj] at this
   simp [cutArr, List.getElem_append, c, this]
  ·have := h2 j (by omega) (by omega)
   simp [hj] at this
   simp [cutArr, List.getElem_append, c, this]
 refine ⟨e, ?_⟩
 rw [e]
 simp [cutArr, List.count_append, List.count_replicate]
theorem putC_eq {n m : Nat} (h : eachB ops n = true) (hm : m <= ops.size) {a A : Act} (hn : a.tmps.size = n) (h1 : A.tmps.size = a.tmps.size) (h2 : A.defers = a.defers) (h3 : ∀ t, ownM ops m t = false -> A.tmps.getD t undef = a.tmps.getD t undef) : putM ops m (slotJ ops A) a = A := by
 obtain ⟨g1, g2, g3, g4⟩ := putAll_go h (slotJ ops A) a hn m hm
 refine act_ext (by unfold putM; rw [g1, h1, hn]) (by unfold putM; rw [g2, h2]) (fun t => ?_)
 unfold putM
 cases ht : ownM ops m t with
 | true =>
  obtain ⟨i, hi, e⟩ := ownM_is ht
  cases ho : ops[i]? with
  | none => rw [ho] at e; cases e
  | some o =>
   have hdo : o.dst = some t := by rw [ho] at e; exact e
   rw [g4 i o t hi ho hdo]
   simp [slotJ, ho, hdo]
 | false =>
  rw [g3 t (fun j o hj ho hdo => by rw [ownM_of hj ho hdo] at ht; cases ht), h3 t ht]
end
section
variable {P : Program} {ops : Array Oper} {Q : Exit -> Act -> World -> Prop}
def EachOpC (P : Program) (m : Nat) (ops : Array Oper) (Q : Exit -> Act -> World -> Prop) {R : World -> World -> Prop} (L : List (Know R)) (a : Act) (W : World) (o : Oper) : Prop :=
 ∀ (A : Act) (w : World), R W w -> (∀ t, ownM ops m t = false -> A.tmps[t]?.getD undef = a.eval (.tmp t)) -> (∀ t, waitsB ops o t = true -> knowAt L t (A.tmps[t]?.getD undef) w) ->
  ∀ K : Act -> World -> Prop, Shut (∀ v w', R w w' -> (match o.dst with | some d => knowAt L d v w' | none => True) -> K (A.put o.dst v) w') -> if Region.wanted o (yielded ops A.tmps) = true then Oper.wp P o A w K Q else K (A.put o.dst undef) w
def EachOpsC (P : Program) (m : Nat) (ops : Array Oper) (Q : Exit -> Act -> World -> Prop) {R : World -> World -> Prop} (L : List (Know R)) (a : Act) (W : World) : List Oper -> Prop
 | [] => True
 | o :: l => EachOpC P m ops Q L a W o /\ EachOpsC P m ops Q L a W l
theorem EachOpsC.get {m : Nat} {R : World -> World -> Prop} {L : List (Know R)} {a : Act} {W : World} : ∀ {l : List Oper} {i : Nat} {o : Oper}, EachOpsC P m ops Q L a W l -> l[i]? = some o -> EachOpC P m ops Q L a W o
 | [], _, _, _, h => by simp at h
 | x :: l, 0, o, h, e => by simp at e; exact e ▸ h.1
 | x :: l, i + 1, o, h, e => EachOpsC.get h.2 (by simpa using e)
theorem wpAny_of_eachC {V : Nat -> Value -> World -> Prop} {R : World -> World -> Prop} {a : Act} {W : World} {n m : Nat} (hn : a.tmps.size = n) (hB : eachB ops n = true) (hm : m <= ops.size) (hC : cutB ops m = true)
  (hR : ∀ w w' w'', R w w' -> R w' w'' -> R w w'') (hV : ∀ i v w w', R W w -> R w w' -> V i v w -> V i v w')
  (hop : ∀ i o, i < m -> ops[i]? = some o -> ∀ (A : Act) (w : World), R W w -> A.tmps.size = a.tmps.size -> (∀ t, ownM ops m t = false -> A.tmps.getD t undef = a.tmps.getD t undef) ->
   (∀ e ∈ o.after, Region.binds .any e = true -> V e.on (slotJ ops A e.on) w) ->
   ∀ K : Act -> World -> Prop, Shut (∀ v w', R w w' -> V i (if o.dst.isSome then v else undef) w' -> K (A.put o.dst v) w') -> if Region.wanted o (yielded ops A.tmps) = true then Oper.wp P o A w K Q else K (A.put o.dst undef) w)
  (hrest : ∀ A w, R W w -> (∀ j, j < m -> V j (slotJ ops A j) w) -> putM ops m (slotJ ops A) a = A -> wpAny P .any ops Q (ops.size - m) (cutArr ops.size m) A w) :
  ∀ (fuel : Nat) (listed : Array Bool) (A : Act) (w : World), listed.size = ops.size -> listed.toList.count false = fuel -> (∀ j, m <= j -> j < ops.size -> listed.getD j true = false) -> Closed ops listed -> EachM ops m V R a W listed A w -> wpAny P .any ops Q fuel listed A w := by
 intro fuel
 induction fuel with
 | zero =>
  intro listed A w hs hc hun hcl I
  have all : ∀ j, j < ops.size -> listed.getD j false = true := fun j hj => by
   have hj' : j < listed.size := by omega
   have h0 := List.count_eq_zero.1 hc
   have h1 : listed[j] ≠ false := fun e => h0 (by rw [<- e]; simp)
   simpa [hj'] using h1
  have hms : m = ops.size := by
   rcases Nat.lt_or_ge m ops.size with h | h
   ·have h1 := hun m (Nat.le_refl _) h
    have h2 := all m h
    have hm' : m < listed.size := by omega
    simp [hm'] at h1 h2
    rw [h2] at h1; cases h1
   ·omega
  obtain ⟨e1, e2⟩ := cut_at hs hm (fun j hj => all j (by omega)) hun
  have h := hrest A w I.rel (fun j hj => I.val j hj (all j (by omega))) (putC_eq hB hm hn I.size I.defers I.out)
  rw [<- e1] at h
  rw [show ops.size - m = 0 by omega] at h
  exact h
 | succ fuel ih =>
  intro listed A w hs hc hun hcl I
  by_cases hall : ∀ j, j < m -> listed.getD j false = true
  ·obtain ⟨e1, e2⟩ := cut_at hs hm hall hun
   have h := hrest A w I.rel (fun j hj => I.val j hj (hall j hj)) (putC_eq hB hm hn I.size I.defers I.out)
   rw [<- e1, <- e2, hc] at h
   exact h
  ·refine ⟨fun hr => ?_, fun i hi => ?_⟩
   ·exfalso
    refine hall (fun j hj => ready_nil hB hs hr (j + 1) j (by omega) (by omega))
   ·obtain ⟨hu, o, ho, hdeps⟩ := mem_ready.1 hi
    have his : i < ops.size := (Array.getElem?_eq_some_iff.1 ho).1
    have hil : i < listed.size := by omega
    have hlf : listed[i] = false := by simpa [hil] using hu
    have him : i < m := by
     rcases Nat.lt_or_ge i m with h | h
     ·exact h
     ·exact absurd (fun j hj => cutB_waits hC hcl h his hdeps ho hj) hall
    have hc' : (listed.setIfInBounds i true).toList.count false = fuel := by
     have : (listed.setIfInBounds i true).toList = listed.toList.set i true := by simp
     rw [this, List.count_set (by simpa using hil)]
     have : (listed.toList[i]'(by simpa using hil)) = false := by simpa using hlf
     rw [this, hc]
     rfl
    have hnext : Shut (∀ v w', R w w' -> V i (if o.dst.isSome then v else undef) w' -> wpAny P .any ops Q fuel (listed.setIfInBounds i true) (A.put o.dst v) w') := fun v w' hR' hv => by
     refine ih _ _ _ (by simp [hs]) hc' (fun j hj hjs => ?_) (hcl.set ho hdeps) ⟨hR _ _ _ I.rel hR', by rw [put_defers', I.defers], by rw [put_size, I.size], fun t ht => ?_, fun j hj hjl => ?_⟩
     ·rw [getD_set_ne true (by omega)]; exact hun j hj hjs
     ·rw [put_getD_ne A v (fun e => by rw [ownM_of him ho e] at ht; cases ht)]
      exact I.out t ht
     ·by_cases e : j = i
      ·subst e
       rw [slotJ_put_self hB (by rw [I.size, hn]) ho]
       exact hv
      ·rw [slotJ_put_ne hB ho e]
       refine hV _ _ _ _ I.rel hR' (I.val j hj ?_)
       simpa [Array.getElem?_setIfInBounds, Ne.symm e] using hjl
    have h1 := hop i o him ho A w I.rel I.size I.out (fun e he hb => I.val _ (by have := eachB_after hB ho e he hb; omega) (hdeps e he hb)) _ hnext
    unfold wpOp
    simp only [ho]
    split
    ·rename_i hw
     rw [if_pos hw] at h1
     exact .inl h1
    ·rename_i hw
     rw [if_neg hw] at h1
     exact h1
theorem wp_region_cut {id : Nat} {a : Act} {W : World} {l : List Oper} {R : World -> World -> Prop} (L : List (Know R)) (n m : Nat) (hm : P.follows .mixedOrders = true) (hn : a.tmps.size = n) (hB : eachB l.toArray n = true) (hml : m <= l.length) (hC : cutB l.toArray m = true)
  (hR0 : R W W.drew) (hR : ∀ w w' w'', R w w' -> R w' w'' -> R w w'') (hop : ∀ Q', EachOpsC P m l.toArray Q' L a W (l.take m))
  (hrest : ∀ (f : Nat -> Value) (w' : World), R W w' -> (∀ t, ownM l.toArray m t = true -> knowAt L t (f t) w') -> ∀ A, A = putSl f (l.take m) a -> wpAny P .any l.toArray Q (l.length - m) (cutArr l.length m) A w') : (Code.region id l.toArray true).wp P Q a W := by
 refine wp_region_any hm (wpAny_of_eachC (V := fun i v w => match (l.toArray[i]?).bind (·.dst) with | some d => knowAt L d v w | none => True) (R := R) hn hB (by simpa using hml) hC hR (fun i v w w' _ hR' h => ?_) (fun i o him ho A w hW hs hout hdep K hK => ?_) (fun A w' hW hv he => ?_) l.toArray.size _ a _ (by simp) (by simp) (fun j hj hjs => ?_) (fun j hj => ?_) ⟨hR0, rfl, rfl, fun _ _ => rfl, fun j hj hjl => ?_⟩)
 ·cases c : (l.toArray[i]?).bind (·.dst) with
  | none => trivial
  | some d => simp only [c] at h |-; exact knowAt_st L d v w w' hR' h
 ·have hi' : (l.take m)[i]? = some o := by rw [List.getElem?_take_of_lt him]; simpa using ho
  refine (hop Q).get hi' A w hW (fun t ht => by rw [<- Array.getD_eq_getD_getElem?]; exact hout t ht) (fun t ht => ?_) K (fun v w' hR' hv => hK v w' hR' ?_)
  ·unfold waitsB at ht
   simp only [Array.any_eq_true', Bool.and_eq_true, beq_iff_eq] at ht
   obtain ⟨e, he, hb, hd⟩ := ht
   have h1 := hdep e he hb
   simp only [hd, slotJ] at h1
   rw [<- Array.getD_eq_getD_getElem?]
   exact h1
  ·simp only [ho, Option.bind_some]
   cases c : o.dst with
   | none => trivial
   | some d => rw [c] at hv; exact hv
 ·have hs := putM_sl l a A m hml
  rw [he] at hs
  have := hrest (fun t => A.eval (.tmp t)) w' hW (fun t ht => ?_) A hs
  ·simpa using this
  ·obtain ⟨i, hi, e⟩ := ownM_is ht
   have h1 := hv i hi
   simp only [e, slotJ] at h1
   exact h1
 ·have : j < l.length := by simpa using hjs
  simp [this]
 ·exfalso
  rcases Nat.lt_or_ge j l.toArray.size with h | h
  ·simp at h; simp [h] at hj
  ·rw [Array.getD_eq_getD_getElem?, Array.getElem?_eq_none (by simpa using h)] at hj; cases hj
 ·exfalso
  rcases Nat.lt_or_ge j l.toArray.size with h | h
  ·simp at h; simp [h] at hjl
  ·rw [Array.getD_eq_getD_getElem?, Array.getElem?_eq_none (by simpa using h)] at hjl; cases hjl
end
section
variable {F : Fence} {n₀ : Nat} {P : Program} {ops : Array Oper} {Q : Exit -> Act -> World -> Prop}
def EachOpIn (F : Fence) (n₀ : Nat) (P : Program) (m : Nat) (ops : Array Oper) (Q : Exit -> Act -> World -> Prop) {R : World -> World -> Prop} (L : List (Know R)) (a : Act) (W : World) (o : Oper) : Prop :=
 ∀ (A : Act) (w : World), R W w -> (∀ t, ownM ops m t = false -> A.tmps[t]?.getD undef = a.eval (.tmp t)) -> (∀ t, waitsB ops o t = true -> knowAt L t (A.tmps[t]?.getD undef) w) ->
  ∀ K : Act -> World -> Prop, Shut (∀ v w', R w w' -> (match o.dst with | some d => knowAt L d v w' | none => True) -> K (A.put o.dst v) w') -> if Region.wanted o (yielded ops A.tmps) = true then Oper.wpIn F n₀ P o A w K Q else (∀ f, o.about P w A.eval = some f -> F.fn f) /\ K (A.put o.dst undef) w
def EachOpsIn (F : Fence) (n₀ : Nat) (P : Program) (m : Nat) (ops : Array Oper) (Q : Exit -> Act -> World -> Prop) {R : World -> World -> Prop} (L : List (Know R)) (a : Act) (W : World) : List Oper -> Prop
 | [] => True
 | o :: l => EachOpIn F n₀ P m ops Q L a W o /\ EachOpsIn F n₀ P m ops Q L a W l
theorem EachOpsIn.get {m : Nat} {R : World -> World -> Prop} {L : List (Know R)} {a : Act} {W : World} : ∀ {l : List Oper} {i : Nat} {o : Oper}, EachOpsIn F n₀ P m ops Q L a W l -> l[i]? = some o -> EachOpIn F n₀ P m ops Q L a W o
 | [], _, _, _, h => by simp at h
 | x :: l, 0, o, h, e => by simp at e; exact e ▸ h.1
 | x :: l, i + 1, o, h, e => EachOpsIn.get h.2 (by simpa using e)
theorem wpAnyIn_of_eachC {V : Nat -> Value -> World -> Prop} {R : World -> World -> Prop} {a : Act} {W : World} {n m : Nat} (hn : a.tmps.size = n) (hB : eachB ops n = true) (hm : m <= ops.size) (hC : cutB ops m = true)
  (hR : ∀ w w' w'', R w w' -> R w' w'' -> R w w'') (hV : ∀ i v w w', R W w -> R w w' -> V i v w -> V i v w')
  (hop : ∀ i o, i < m -> ops[i]? = some o -> ∀ (A : Act) (w : World), R W w -> A.tmps.size = a.tmps.size -> (∀ t, ownM ops m t = false -> A.tmps.getD t undef = a.tmps.getD t undef) ->
   (∀ e ∈ o.after, Region.binds .any e = true -> V e.on (slotJ ops A e.on) w) ->
   ∀ K : Act -> World -> Prop, Shut (∀ v w', R w w' -> V i (if o.dst.isSome then v else undef) w' -> K (A.put o.dst v) w') -> if Region.wanted o (yielded ops A.tmps) = true then Oper.wpIn F n₀ P o A w K Q else (∀ f, o.about P w A.eval = some f -> F.fn f) /\ K (A.put o.dst undef) w)
  (hrest : ∀ A w, R W w -> (∀ j, j < m -> V j (slotJ ops A j) w) -> putM ops m (slotJ ops A) a = A -> wpAnyIn F n₀ P .any ops Q (ops.size - m) (cutArr ops.size m) A w) :
  ∀ (fuel : Nat) (listed : Array Bool) (A : Act) (w : World), listed.size = ops.size -> listed.toList.count false = fuel -> (∀ j, m <= j -> j < ops.size -> listed.getD j true = false) -> Closed ops listed -> EachM ops m V R a W listed A w -> wpAnyIn F n₀ P .any ops Q fuel listed A w := by
 intro fuel
 induction fuel with
 | zero =>
  intro listed A w hs hc hun hcl I
  have all : ∀ j, j < ops.size -> listed.getD j false = true := fun j hj => by
   have hj' : j < listed.size := by omega
   have h0 := List.count_eq_zero.1 hc
   have h1 : listed[j] ≠ false := fun e => h0 (by rw [<- e]; simp)
   simpa [hj'] using h1
  have hms : m = ops.size := by
   rcases Nat.lt_or_ge m ops.size with h | h
   ·have h1 := hun m (Nat.le_refl _) h
    have h2 := all m h
    have hm' : m < listed.size := by omega
    simp [hm'] at h1 h2
    rw [h2] at h1; cases h1
   ·omega
  obtain ⟨e1, e2⟩ := cut_at hs hm (fun j hj => all j (by omega)) hun
  have h := hrest A w I.rel (fun j hj => I.val j hj (all j (by omega))) (putC_eq hB hm hn I.size I.defers I.out)
  rw [<- e1] at h
  rw [show ops.size - m = 0 by omega] at h
  exact h
 | succ fuel ih =>
  intro listed A w hs hc hun hcl I
  by_cases hall : ∀ j, j < m -> listed.getD j false = true
  ·obtain ⟨e1, e2⟩ := cut_at hs hm hall hun
   have h := hrest A w I.rel (fun j hj => I.val j hj (hall j hj)) (putC_eq hB hm hn I.size I.defers I.out)
   rw [<- e1, <- e2, hc] at h
   exact h
  ·refine ⟨fun hr => ?_, fun i hi => ?_⟩
   ·exfalso
    refine hall (fun j hj => ready_nil hB hs hr (j + 1) j (by omega) (by omega))
   ·obtain ⟨hu, o, ho, hdeps⟩ := mem_ready.1 hi
    have his : i < ops.size := (Array.getElem?_eq_some_iff.1 ho).1
    have hil : i < listed.size := by omega
    have hlf : listed[i] = false := by simpa [hil] using hu
    have him : i < m := by
     rcases Nat.lt_or_ge i m with h | h
     ·exact h
     ·exact absurd (fun j hj => cutB_waits hC hcl h his hdeps ho hj) hall
    have hc' : (listed.setIfInBounds i true).toList.count false = fuel := by
     have : (listed.setIfInBounds i true).toList = listed.toList.set i true := by simp
     rw [this, List.count_set (by simpa using hil)]
     have : (listed.toList[i]'(by simpa using hil)) = false := by simpa using hlf
     rw [this, hc]
     rfl
    have hnext : Shut (∀ v w', R w w' -> V i (if o.dst.isSome then v else undef) w' -> wpAnyIn F n₀ P .any ops Q fuel (listed.setIfInBounds i true) (A.put o.dst v) w') := fun v w' hR' hv => by
     refine ih _ _ _ (by simp [hs]) hc' (fun j hj hjs => ?_) (hcl.set ho hdeps) ⟨hR _ _ _ I.rel hR', by rw [put_defers', I.defers], by rw [put_size, I.size], fun t ht => ?_, fun j hj hjl => ?_⟩
     ·rw [getD_set_ne true (by omega)]; exact hun j hj hjs
     ·rw [put_getD_ne A v (fun e => by rw [ownM_of him ho e] at ht; cases ht)]
      exact I.out t ht
     ·by_cases e : j = i
      ·subst e
       rw [slotJ_put_self hB (by rw [I.size, hn]) ho]
       exact hv
      ·rw [slotJ_put_ne hB ho e]
       refine hV _ _ _ _ I.rel hR' (I.val j hj ?_)
       simpa [Array.getElem?_setIfInBounds, Ne.symm e] using hjl
    have h1 := hop i o him ho A w I.rel I.size I.out (fun e he hb => I.val _ (by have := eachB_after hB ho e he hb; omega) (hdeps e he hb)) _ hnext
    unfold wpOpIn
    simp only [ho]
    split
    ·rename_i hw
     rw [if_pos hw] at h1
     exact h1
    ·rename_i hw
     rw [if_neg hw] at h1
     exact h1
theorem wpIn_region_cut {id : Nat} {a : Act} {W : World} {l : List Oper} {R : World -> World -> Prop} (L : List (Know R)) (n m : Nat) (hm : P.follows .mixedOrders = true) (hn : a.tmps.size = n) (hB : eachB l.toArray n = true) (hml : m <= l.length) (hC : cutB l.toArray m = true)
  (hR0 : R W W.drew) (hR : ∀ w w' w'', R w w' -> R w' w'' -> R w w'') (hop : ∀ Q', EachOpsIn F n₀ P m l.toArray Q' L a W (l.take m))
  (hrest : ∀ (f : Nat -> Value) (w' : World), R W w' -> (∀ t, ownM l.toArray m t = true -> knowAt L t (f t) w') -> ∀ A, A = putSl f (l.take m) a -> wpAnyIn F n₀ P .any l.toArray Q (l.length - m) (cutArr l.length m) A w') : (Code.region id l.toArray true).wpIn F n₀ P Q a W := by
 refine wpIn_region_any hm (wpAnyIn_of_eachC (V := fun i v w => match (l.toArray[i]?).bind (·.dst) with | some d => knowAt L d v w | none => True) (R := R) hn hB (by simpa using hml) hC hR (fun i v w w' _ hR' h => ?_) (fun i o him ho A w hW hs hout hdep K hK => ?_) (fun A w' hW hv he => ?_) l.toArray.size _ a _ (by simp) (by simp) (fun j hj hjs => ?_) (fun j hj => ?_) ⟨hR0, rfl, rfl, fun _ _ => rfl, fun j hj hjl => ?_⟩)
 ·cases c : (l.toArray[i]?).bind (·.dst) with
  | none => trivial
  | some d => simp only [c] at h |-; exact knowAt_st L d v w w' hR' h
 ·have hi' : (l.take m)[i]? = some o := by rw [List.getElem?_take_of_lt him]; simpa using ho
  refine (hop Q).get hi' A w hW (fun t ht => by rw [<- Array.getD_eq_getD_getElem?]; exact hout t ht) (fun t ht => ?_) K (fun v w' hR' hv => hK v w' hR' ?_)
  ·unfold waitsB at ht
   simp only [Array.any_eq_true', Bool.and_eq_true, beq_iff_eq] at ht
   obtain ⟨e, he, hb, hd⟩ := ht
   have h1 := hdep e he hb
   simp only [hd, slotJ] at h1
   rw [<- Array.getD_eq_getD_getElem?]
   exact h1
  ·simp only [ho, Option.bind_some]
   cases c : o.dst with
   | none => trivial
   | some d => rw [c] at hv; exact hv
 ·have hs := putM_sl l a A m hml
  rw [he] at hs
  have := hrest (fun t => A.eval (.tmp t)) w' hW (fun t ht => ?_) A hs
  ·simpa using this
  ·obtain ⟨i, hi, e⟩ := ownM_is ht
   have h1 := hv i hi
   simp only [e, slotJ] at h1
   exact h1
 ·have : j < l.length := by simpa using hjs
  simp [this]
 ·exfalso
  rcases Nat.lt_or_ge j l.toArray.size with h | h
  ·simp at h; simp [h] at hj
  ·rw [Array.getD_eq_getD_getElem?, Array.getElem?_eq_none (by simpa using h)] at hj; cases hj
 ·exfalso
  rcases Nat.lt_or_ge j l.toArray.size with h | h
  ·simp at h; simp [h] at hjl
  ·rw [Array.getD_eq_getD_getElem?, Array.getElem?_eq_none (by simpa using h)] at hjl; cases hjl
def cutE (ops : Array Oper) (m e : Nat) : Bool := (List.range ops.size).all (fun j => decide (j < m) || (List.range m).all (fun i => decide (i = e) || waitsFor ops i ops.size j))
theorem cutE_waits {listed : Array Bool} {m e i j : Nat} {o : Oper} (h : cutE ops m e = true) (hcl : Closed ops listed) (him : m <= i) (his : i < ops.size) (hd : ∀ e ∈ o.after, Region.binds .any e = true -> listed.getD e.on false = true) (ho : ops[i]? = some o) (hj : j < m) (hje : j ≠ e) : listed.getD j false = true := by
 unfold cutE at h
 simp only [List.all_eq_true, List.mem_range, Bool.or_eq_true, decide_eq_true_eq] at h
 rcases h i his with h1 | h1
 ·omega
 ·rcases h1 j hj with h2 | h2
  ·exact absurd h2 hje
  ·exact waitsFor_is hcl ops.size i h2 (fun o' ho' => by rw [ho] at ho'; cases ho'; exact hd)
theorem cut_late {listed : Array Bool} {m e : Nat} (hs : listed.size = ops.size) (hm : m <= ops.size) (hem : e < m) (h1 : ∀ j, j < m -> j ≠ e -> listed.getD j false = true) (he : listed.getD e false = false) (h2 : ∀ j, m <= j -> j < ops.size -> listed.getD j true = false) : listed = (cutArr ops.size m).setIfInBounds e false := by
 refine Array.ext (by simp [cutArr, hs]; omega) (fun j hj hj' => ?_)
 rw [Array.getElem_setIfInBounds (show j < (cutArr ops.size m).size by simpa using hj')]
 by_cases c : e = j
 ·rw [if_pos c]
  subst c
  simpa [hj] using he
 ·rw [if_neg c]
  by_cases c' : j < m
  ·have := h1 j c' (Ne.symm c)
   simp [hj] at this
   simp [cutArr, List.getElem_append, c', this]
  ·have := h2 j (by omega) (by omega)
   simp [hj] at this
   simp [cutArr, List.getElem_append, c', this]
theorem cut_late_count (n m e : Nat) (hm : m <= n) (hem : e < m) : ((cutArr n m).setIfInBounds e false).toList.count false = n - m + 1 := by
 have hsz : e < (cutArr n m).toList.length := by simp [cutArr]; omega
 have h0 : ((cutArr n m).setIfInBounds e false).toList = (cutArr n m).toList.set e false := by simp
 rw [h0, List.count_set hsz]
 have h1 : (cutArr n m).toList[e] = true := by simp [cutArr, List.getElem_append, hem]
 rw [h1]
 simp [cutArr, List.count_append, List.count_replicate]
theorem wpAnyIn_of_eachL {V : Nat -> Value -> World -> Prop} {R : World -> World -> Prop} {a : Act} {W : World} {n m e₀ : Nat} (hn : a.tmps.size = n) (hB : eachB ops n = true) (hm : m <= ops.size) (hem : e₀ < m) (hC : cutE ops m e₀ = true)
  (hR : ∀ w w' w'', R w w' -> R w' w'' -> R w w'') (hV : ∀ i v w w', R W w -> R w w' -> V i v w -> V i v w')
  (hop : ∀ i o, i < m -> ops[i]? = some o -> ∀ (A : Act) (w : World), R W w -> A.tmps.size = a.tmps.size -> (∀ t, ownM ops m t = false -> A.tmps.getD t undef = a.tmps.getD t undef) ->
   (∀ e ∈ o.after, Region.binds .any e = true -> V e.on (slotJ ops A e.on) w) ->
   ∀ K : Act -> World -> Prop, Shut (∀ v w', R w w' -> V i (if o.dst.isSome then v else undef) w' -> K (A.put o.dst v) w') -> if Region.wanted o (yielded ops A.tmps) = true then Oper.wpIn F n₀ P o A w K Q else (∀ f, o.about P w A.eval = some f -> F.fn f) /\ K (A.put o.dst undef) w)
  (hrest : ∀ A w, R W w -> (∀ j, j < m -> V j (slotJ ops A j) w) -> putM ops m (slotJ ops A) a = A -> wpAnyIn F n₀ P .any ops Q (ops.size - m) (cutArr ops.size m) A w)
  (hlate : ∀ A w, R W w -> (∀ j, j < m -> j ≠ e₀ -> V j (slotJ ops A j) w) -> putM ops m (slotJ ops A) a = A -> ∀ i ∈ Region.ready .any ops ((cutArr ops.size m).setIfInBounds e₀ false), m <= i -> wpOpIn F n₀ P ops Q i (wpAnyIn F n₀ P .any ops Q (ops.size - m) (((cutArr ops.size m).setIfInBounds e₀ false).setIfInBounds i true)) A w) :
  ∀ (fuel : Nat) (listed : Array Bool) (A : Act) (w : World), listed.size = ops.size -> listed.toList.count false = fuel -> (∀ j, m <= j -> j < ops.size -> listed.getD j true = false) -> Closed ops listed -> EachM ops m V R a W listed A w -> wpAnyIn F n₀ P .any ops Q fuel listed A w := by
 intro fuel
 induction fuel with
 | zero =>
  intro listed A w hs hc hun hcl I
  have all : ∀ j, j < ops.size -> listed.getD j false = true := fun j hj => by
   have hj' : j < listed.size := by omega
   have h0 := List.count_eq_zero.1 hc
   have h1 : listed[j] ≠ false := fun e => h0 (by rw [<- e]; simp)
   simpa [hj'] using h1
  have hms : m = ops.size := by
   rcases Nat.lt_or_ge m ops.size with h | h
   ·have h1 := hun m (Nat.le_refl _) h
    have h2 := all m h
    have hm' : m < listed.size := by omega
    simp [hm'] at h1 h2
    rw [h2] at h1; cases h1
   ·omega
  obtain ⟨e1, e2⟩ := cut_at hs hm (fun j hj => all j (by omega)) hun
  have h := hrest A w I.rel (fun j hj => I.val j hj (all j (by omega))) (putC_eq hB hm hn I.size I.defers I.out)
  rw [<- e1] at h
  rw [show ops.size - m = 0 by omega] at h
  exact h
 | succ fuel ih =>
  intro listed A w hs hc hun hcl I
  by_cases hall : ∀ j, j < m -> listed.getD j false = true
  ·obtain ⟨e1, e2⟩ := cut_at hs hm hall hun
   have h := hrest A w I.rel (fun j hj => I.val j hj (hall j hj)) (putC_eq hB hm hn I.size I.defers I.out)
   rw [<- e1, <- e2, hc] at h
   exact h
  ·refine ⟨fun hr => ?_, fun i hi => ?_⟩
   ·exfalso
    refine hall (fun j hj => ready_nil hB hs hr (j + 1) j (by omega) (by omega))
   ·obtain ⟨hu, o, ho, hdeps⟩ := mem_ready.1 hi
    have his : i < ops.size := (Array.getElem?_eq_some_iff.1 ho).1
    have hil : i < listed.size := by omega
    have hlf : listed[i] = false := by simpa [hil] using hu
    by_cases him : i < m
    case neg =>
     have h1 : ∀ j, j < m -> j ≠ e₀ -> listed.getD j false = true := fun j hj hje => cutE_waits hC hcl (by omega) his hdeps ho hj hje
     have he : listed.getD e₀ false = false := by
      cases c : listed.getD e₀ false with
      | false => rfl
      | true =>
       refine absurd (fun j hj => ?_) hall
       by_cases cj : j = e₀
       ·rw [cj]; exact c
       ·exact h1 j hj cj
     have e1 := cut_late hs hm hem h1 he hun
     have h := hlate A w I.rel (fun j hj hje => I.val j hj (h1 j hj hje)) (putC_eq hB hm hn I.size I.defers I.out) i (by rw [<- e1]; exact hi) (by omega)
     rw [<- e1] at h
     have hcc : fuel = ops.size - m := by
      have := cut_late_count ops.size m e₀ hm hem
      rw [<- e1, hc] at this
      omega
     rw [hcc]
     exact h
    have hc' : (listed.setIfInBounds i true).toList.count false = fuel := by
     have : (listed.setIfInBounds i true).toList = listed.toList.set i true := by simp
     rw [this, List.count_set (by simpa using hil)]
     have : (listed.toList[i]'(by simpa using hil)) = false := by simpa using hlf
     rw [this, hc]
     rfl
    have hnext : Shut (∀ v w', R w w' -> V i (if o.dst.isSome then v else undef) w' -> wpAnyIn F n₀ P .any ops Q fuel (listed.setIfInBounds i true) (A.put o.dst v) w') := fun v w' hR' hv => by
     refine ih _ _ _ (by simp [hs]) hc' (fun j hj hjs => ?_) (hcl.set ho hdeps) ⟨hR _ _ _ I.rel hR', by rw [put_defers', I.defers], by rw [put_size, I.size], fun t ht => ?_, fun j hj hjl => ?_⟩
     ·rw [getD_set_ne true (by omega)]; exact hun j hj hjs
     ·rw [put_getD_ne A v (fun e => by rw [ownM_of him ho e] at ht; cases ht)]
      exact I.out t ht
     ·by_cases e : j = i
      ·subst e
       rw [slotJ_put_self hB (by rw [I.size, hn]) ho]
       exact hv
      ·rw [slotJ_put_ne hB ho e]
       refine hV _ _ _ _ I.rel hR' (I.val j hj ?_)
       simpa [Array.getElem?_setIfInBounds, Ne.symm e] using hjl
    have h1 := hop i o him ho A w I.rel I.size I.out (fun e he hb => I.val _ (by have := eachB_after hB ho e he hb; omega) (hdeps e he hb)) _ hnext
    unfold wpOpIn
    simp only [ho]
    split
    ·rename_i hw
     rw [if_pos hw] at h1
     exact h1
    ·rename_i hw
     rw [if_neg hw] at h1
     exact h1
theorem wpIn_region_late {id : Nat} {a : Act} {W : World} {l : List Oper} {R : World -> World -> Prop} (L : List (Know R)) (n m e₀ : Nat) (hm : P.follows .mixedOrders = true) (hn : a.tmps.size = n) (hB : eachB l.toArray n = true) (hml : m <= l.length) (hem : e₀ < m) (hC : cutE l.toArray m e₀ = true)
  (hR0 : R W W.drew) (hR : ∀ w w' w'', R w w' -> R w' w'' -> R w w'') (hop : ∀ Q', EachOpsIn F n₀ P m l.toArray Q' L a W (l.take m))
  (hrest : ∀ (f : Nat -> Value) (w' : World), R W w' -> (∀ t, ownM l.toArray m t = true -> knowAt L t (f t) w') -> ∀ A, A = putSl f (l.take m) a -> wpAnyIn F n₀ P .any l.toArray Q (l.length - m) (cutArr l.length m) A w')
  (hlate : ∀ (f : Nat -> Value) (w' : World), R W w' -> (∀ t, ownM l.toArray m t = true -> (l.toArray[e₀]?).bind (·.dst) ≠ some t -> knowAt L t (f t) w') -> ∀ A, A = putSl f (l.take m) a -> ∀ i ∈ Region.ready .any l.toArray ((cutArr l.length m).setIfInBounds e₀ false), m <= i -> wpOpIn F n₀ P l.toArray Q i (wpAnyIn F n₀ P .any l.toArray Q (l.length - m) (((cutArr l.length m).setIfInBounds e₀ false).setIfInBounds i true)) A w') : (Code.region id l.toArray true).wpIn F n₀ P Q a W := by
 refine wpIn_region_any hm (wpAnyIn_of_eachL (e₀ := e₀) (V := fun i v w => match (l.toArray[i]?).bind (·.dst) with | some d => knowAt L d v w | none => True) (R := R) hn hB (by simpa using hml) hem hC hR (fun i v w w' _ hR' h => ?_) (fun i o him ho A w hW hs hout hdep K hK => ?_) (fun A w' hW hv he => ?_) (fun A w' hW hv he i hi hmi => ?_) l.toArray.size _ a _ (by simp) (by simp) (fun j hj hjs => ?_) (fun j hj => ?_) ⟨hR0, rfl, rfl, fun _ _ => rfl, fun j hj hjl => ?_⟩)
 ·cases c : (l.toArray[i]?).bind (·.dst) with
  | none => trivial
  | some d => simp only [c] at h |-; exact knowAt_st L d v w w' hR' h
 ·have hi' : (l.take m)[i]? = some o := by rw [List.getElem?_take_of_lt him]; simpa using ho
  refine (hop Q).get hi' A w hW (fun t ht => by rw [<- Array.getD_eq_getD_getElem?]; exact hout t ht) (fun t ht => ?_) K (fun v w' hR' hv => hK v w' hR' ?_)
  ·unfold waitsB at ht
   simp only [Array.any_eq_true', Bool.and_eq_true, beq_iff_eq] at ht
   obtain ⟨e, he, hb, hd⟩ := ht
   have h1 := hdep e he hb
   simp only [hd, slotJ] at h1
   rw [<- Array.getD_eq_getD_getElem?]
   exact h1
  ·simp only [ho, Option.bind_some]
   cases c : o.dst with
   | none => trivial
   | some d => rw [c] at hv; exact hv
 ·have hs := putM_sl l a A m hml
  rw [he] at hs
  have := hrest (fun t => A.eval (.tmp t)) w' hW (fun t ht => ?_) A hs
  ·simpa using this
  ·obtain ⟨i, hi, e⟩ := ownM_is ht
   have h1 := hv i hi
   simp only [e, slotJ] at h1
   exact h1
 ·have hs := putM_sl l a A m hml
  rw [he] at hs
  have := hlate (fun t => A.eval (.tmp t)) w' hW (fun t ht htn => ?_) A hs i (by simpa using hi) hmi
  ·simpa using this
  ·obtain ⟨i', hi', e⟩ := ownM_is ht
   have h1 := hv i' hi' (fun c => htn (by rw [<- c]; exact e))
   simp only [e, slotJ] at h1
   exact h1
 ·have : j < l.length := by simpa using hjs
  simp [this]
 ·exfalso
  rcases Nat.lt_or_ge j l.toArray.size with h | h
  ·simp at h; simp [h] at hj
  ·rw [Array.getD_eq_getD_getElem?, Array.getElem?_eq_none (by simpa using h)] at hj; cases hj
 ·exfalso
  rcases Nat.lt_or_ge j l.toArray.size with h | h
  ·simp at h; simp [h] at hjl
  ·rw [Array.getD_eq_getD_getElem?, Array.getElem?_eq_none (by simpa using h)] at hjl; cases hjl
end
end Go.Proofs.YtimfipkbddpdmaaGreatDoor
