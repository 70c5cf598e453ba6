import Derived.Test.YtimfipkbddpdmaaGreatDoorEach
set_option linter.unusedVariables false
set_option linter.unusedSimpArgs false
set_option maxRecDepth 100000
open Go Go.RowKit
namespace Go.Proofs.YtimfipkbddpdmaaGreatDoor
section
variable {P : Program} {ops : Array Oper} {Q : Exit -> Act -> World -> Prop}
theorem wpAny_of_late {V : Nat -> Value -> World -> Prop} {R : World -> World -> Prop} {a : Act} {W : World} {n m e₀ : Nat} (hn : a.tmps.size = n) (hB : eachB ops n = true) (hm : m <= ops.size) (hem : e₀ < m) (hC : cutE ops m e₀ = true)
  (hR : ∀ w w' w'', R w w' -> R w' w'' -> R w w'') (hV : ∀ i v w w', R W w -> R w w' -> V i v w -> V i v w')
  (hop : ∀ i o, i < m -> ops[i]? = some o -> ∀ (A : Act) (w : World), R W w -> A.tmps.size = a.tmps.size -> (∀ t, ownM ops m t = false -> A.tmps.getD t undef = a.tmps.getD t undef) ->
   (∀ e ∈ o.after, Region.binds .any e = true -> V e.on (slotJ ops A e.on) w) ->
   ∀ K : Act -> World -> Prop, Shut (∀ v w', R w w' -> V i (if o.dst.isSome then v else undef) w' -> K (A.put o.dst v) w') -> if Region.wanted o (yielded ops A.tmps) = true then Oper.wp P o A w K Q else K (A.put o.dst undef) w)
  (hrest : ∀ A w, R W w -> (∀ j, j < m -> V j (slotJ ops A j) w) -> putM ops m (slotJ ops A) a = A -> wpAny P .any ops Q (ops.size - m) (cutArr ops.size m) A w)
  (hlate : ∀ A w, R W w -> (∀ j, j < m -> j ≠ e₀ -> V j (slotJ ops A j) w) -> putM ops m (slotJ ops A) a = A -> ∀ i ∈ Region.ready .any ops ((cutArr ops.size m).setIfInBounds e₀ false), m <= i -> wpOp P ops Q i (wpAny P .any ops Q (ops.size - m) (((cutArr ops.size m).setIfInBounds e₀ false).setIfInBounds i true)) A w) :
  ∀ (fuel : Nat) (listed : Array Bool) (A : Act) (w : World), listed.size = ops.size -> listed.toList.count false = fuel -> (∀ j, m <= j -> j < ops.size -> listed.getD j true = false) -> Closed ops listed -> EachM ops m V R a W listed A w -> wpAny P .any ops Q fuel listed A w := by
 intro fuel
 induction fuel with
 | zero =>
  intro listed A w hs hc hun hcl I
  have all : ∀ j, j < ops.size -> listed.getD j false = true := fun j hj => by
   have hj' : j < listed.size := by omega
   have h0 := List.count_eq_zero.1 hc
   have h1 : listed[j] ≠ false := fun e => h0 (by rw [<- e]; simp)
   simpa [hj'] using h1
  have hms : m = ops.size := by
   rcases Nat.lt_or_ge m ops.size with h | h
   ·have h1 := hun m (Nat.le_refl _) h
    have h2 := all m h
    have hm' : m < listed.size := by omega
    simp [hm'] at h1 h2
    rw [h2] at h1; cases h1
   ·omega
  obtain ⟨e1, e2⟩ := cut_at hs hm (fun j hj => all j (by omega)) hun
  have h := hrest A w I.rel (fun j hj => I.val j hj (all j (by omega))) (putC_eq hB hm hn I.size I.defers I.out)
  rw [<- e1] at h
  rw [show ops.size - m = 0 by omega] at h
  exact h
 | succ fuel ih =>
  intro listed A w hs hc hun hcl I
  by_cases hall : ∀ j, j < m -> listed.getD j false = true
  ·obtain ⟨e1, e2⟩ := cut_at hs hm hall hun
   have h := hrest A w I.rel (fun j hj => I.val j hj (hall j hj)) (putC_eq hB hm hn I.size I.defers I.out)
   rw [<- e1, <- e2, hc] at h
   exact h
  ·refine ⟨fun hr => ?_, fun i hi => ?_⟩
   ·exfalso
    refine hall (fun j hj => ready_nil hB hs hr (j + 1) j (by omega) (by omega))
   ·obtain ⟨hu, o, ho, hdeps⟩ := mem_ready.1 hi
    have his : i < ops.size := (Array.getElem?_eq_some_iff.1 ho).1
    have hil : i < listed.size := by omega
    have hlf : listed[i] = false := by simpa [hil] using hu
    by_cases him : i < m
    case neg =>
     have h1 : ∀ j, j < m -> j ≠ e₀ -> listed.getD j false = true := fun j hj hje => cutE_waits hC hcl (by omega) his hdeps ho hj hje
     have he : listed.getD e₀ false = false := by
      cases c : listed.getD e₀ false with
      | false => rfl
      | true =>
       refine absurd (fun j hj => ?_) hall
       by_cases cj : j = e₀
       ·rw [cj]; exact c
       ·exact h1 j hj cj
     have e1 := cut_late hs hm hem h1 he hun
     have h := hlate A w I.rel (fun j hj hje => I.val j hj (h1 j hj hje)) (putC_eq hB hm hn I.size I.defers I.out) i (by rw [<- e1]; exact hi) (by omega)
     rw [<- e1] at h
     have hcc : fuel = ops.size - m := by
      have := cut_late_count ops.size m e₀ hm hem
      rw [<- e1, hc] at this
      omega
     rw [hcc]
     exact h
    have hc' : (listed.setIfInBounds i true).toList.count false = fuel := by
     have : (listed.setIfInBounds i true).toList = listed.toList.set i true := by simp
     rw [this, List.count_set (by simpa using hil)]
     have : (listed.toList[i]'(by simpa using hil)) = false := by simpa using hlf
     rw [this, hc]
     rfl
    have hnext : Shut (∀ v w', R w w' -> V i (if o.dst.isSome then v else undef) w' -> wpAny P .any ops Q fuel (listed.setIfInBounds i true) (A.put o.dst v) w') := fun v w' hR' hv => by
     refine ih _ _ _ (by simp [hs]) hc' (fun j hj hjs => ?_) (hcl.set ho hdeps) ⟨hR _ _ _ I.rel hR', by rw [put_defers', I.defers], by rw [put_size, I.size], fun t ht => ?_, fun j hj hjl => ?_⟩
     ·rw [getD_set_ne true (by omega)]; exact hun j hj hjs
     ·rw [put_getD_ne A v (fun e => by rw [ownM_of him ho e] at ht; cases ht)]
      exact I.out t ht
     ·by_cases e : j = i
      ·subst e
       rw [slotJ_put_self hB (by rw [I.size, hn]) ho]
       exact hv
      ·rw [slotJ_put_ne hB ho e]
       refine hV _ _ _ _ I.rel hR' (I.val j hj ?_)
       simpa [Array.getElem?_setIfInBounds, Ne.symm e] using hjl
    have h1 := hop i o him ho A w I.rel I.size I.out (fun e he hb => I.val _ (by have := eachB_after hB ho e he hb; omega) (hdeps e he hb)) _ hnext
    unfold wpOp
    simp only [ho]
    split
    ·rename_i hw
     rw [if_pos hw] at h1
     exact Or.inl h1
    ·rename_i hw
     rw [if_neg hw] at h1
     exact h1
theorem wp_region_late {id : Nat} {a : Act} {W : World} {l : List Oper} {R : World -> World -> Prop} (L : List (Know R)) (n m e₀ : Nat) (hm : P.follows .mixedOrders = true) (hn : a.tmps.size = n) (hB : eachB l.toArray n = true) (hml : m <= l.length) (hem : e₀ < m) (hC : cutE l.toArray m e₀ = true)
  (hR0 : R W W.drew) (hR : ∀ w w' w'', R w w' -> R w' w'' -> R w w'') (hop : ∀ Q', EachOpsC P m l.toArray Q' L a W (l.take m))
  (hrest : ∀ (f : Nat -> Value) (w' : World), R W w' -> (∀ t, ownM l.toArray m t = true -> knowAt L t (f t) w') -> ∀ A, A = putSl f (l.take m) a -> wpAny P .any l.toArray Q (l.length - m) (cutArr l.length m) A w')
  (hlate : ∀ (f : Nat -> Value) (w' : World), R W w' -> (∀ t, ownM l.toArray m t = true -> (l.toArray[e₀]?).bind (·.dst) ≠ some t -> knowAt L t (f t) w') -> ∀ A, A = putSl f (l.take m) a -> ∀ i ∈ Region.ready .any l.toArray ((cutArr l.length m).setIfInBounds e₀ false), m <= i -> wpOp P l.toArray Q i (wpAny P .any l.toArray Q (l.length - m) (((cutArr l.length m).setIfInBounds e₀ false).setIfInBounds i true)) A w') : (Code.region id l.toArray true).wp P Q a W := by
 refine wp_region_any hm (wpAny_of_late (e₀ := e₀) (V := fun i v w => match (l.toArray[i]?).bind (·.dst) with | some d => knowAt L d v w | none => True) (R := R) hn hB (by simpa using hml) hem hC hR (fun i v w w' _ hR' h => ?_) (fun i o him ho A w hW hs hout hdep K hK => ?_) (fun A w' hW hv he => ?_) (fun A w' hW hv he i hi hmi => ?_) l.toArray.size _ a _ (by simp) (by simp) (fun j hj hjs => ?_) (fun j hj => ?_) ⟨hR0, rfl, rfl, fun _ _ => rfl, fun j hj hjl => ?_⟩)
 ·cases c : (l.toArray[i]?).bind (·.dst) with
  | none => trivial
  | some d => simp only [c] at h |-; exact knowAt_st L d v w w' hR' h
 ·have hi' : (l.take m)[i]? = some o := by rw [List.getElem?_take_of_lt him]; simpa using ho
  refine (hop Q).get hi' A w hW (fun t ht => by rw [<- Array.getD_eq_getD_getElem?]; exact hout t ht) (fun t ht => ?_) K (fun v w' hR' hv => hK v w' hR' ?_)
  ·unfold waitsB at ht
   simp only [Array.any_eq_true', Bool.and_eq_true, beq_iff_eq] at ht
   obtain ⟨e, he, hb, hd⟩ := ht
   have h1 := hdep e he hb
   simp only [hd, slotJ] at h1
   rw [<- Array.getD_eq_getD_getElem?]
   exact h1
  ·simp only [ho, Option.bind_some]
   cases c : o.dst with
   | none => trivial
   | some d => rw [c] at hv; exact hv
 ·have hs := putM_sl l a A m hml
  rw [he] at hs
  have := hrest (fun t => A.eval (.tmp t)) w' hW (fun t ht => ?_) A hs
  ·simpa using this
  ·obtain ⟨i, hi, e⟩ := ownM_is ht
   have h1 := hv i hi
   simp only [e, slotJ] at h1
   exact h1
 ·have hs := putM_sl l a A m hml
  rw [he] at hs
  have := hlate (fun t => A.eval (.tmp t)) w' hW (fun t ht htn => ?_) A hs i (by simpa using hi) hmi
  ·simpa using this
  ·obtain ⟨i', hi', e⟩ := ownM_is ht
   have h1 := hv i' hi' (fun c => htn (by rw [<- c]; exact e))
   simp only [e, slotJ] at h1
   exact h1
 ·have : j < l.length := by simpa using hjs
  simp [this]
 ·exfalso
  rcases Nat.lt_or_ge j l.toArray.size with h | h
  ·simp at h; simp [h] at hj
  ·rw [Array.getD_eq_getD_getElem?, Array.getElem?_eq_none (by simpa using h)] at hj; cases hj
 ·exfalso
  rcases Nat.lt_or_ge j l.toArray.size with h | h
  ·simp at h; simp [h] at hjl
  ·rw [Array.getD_eq_getD_getElem?, Array.getElem?_eq_none (by simpa using h)] at hjl; cases hjl
end
end Go.Proofs.YtimfipkbddpdmaaGreatDoor
