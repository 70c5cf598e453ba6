/- What is proved here: a region that draws its order, by what is known once each operation has run: also of operations with no slot (a map's inserts), told of the slots that they wait for. -/
import Derived.Test.YtkpmkgkfpikpfaaGreatEach
import Derived.Test.YtkpmkgkfpikpfaaGreatStj
import Derived.Test.YtkpmkgkfpikpfaaGreatSu
import Derived.Maps.Own
namespace Go.Proofs.YtkpmkgkfpikpfaaGreat
open Go.RowKit
set_option linter.unusedVariables false
set_option linter.unusedSimpArgs false
section
variable {P : Program} {ops : Array Oper} {Q : Exit → Act → World → Prop}
structure EachG (ops : Array Oper) (V : Nat → (Nat → Value) → World → Prop) (D : Nat → List Nat) (R : World → World → Prop) (a : Act) (W : World) (listed : Array Bool) (A : Act) (w : World) : Prop where
  rel : R W w
  defers : A.defers = a.defers
  size : A.tmps.size = a.tmps.size
  out : ∀ t, ownSlot ops t = false → A.tmps.getD t undef = a.tmps.getD t undef
  val : ∀ j, listed.getD j false = true → V j (slotJ ops A) w
  dl : ∀ j, listed.getD j false = true → ∀ k ∈ D j, listed.getD k false = true
/-- What an operation is known by speaks of its own slot, and of those that it waits for. -/
def DepB (ops : Array Oper) (D : Nat → List Nat) : Bool := (List.range ops.size).all (fun i => (D i).all (fun k => k == i || (match ops[i]? with | some o => o.after.any (fun e => Region.binds .any e && e.on == k) | none => false)))
theorem depB_is {D : Nat → List Nat} {i : Nat} {o : Oper} (h : DepB ops D = true) (ho : ops[i]? = some o) : ∀ k ∈ D i, k = i ∨ ∃ e ∈ o.after, Region.binds .any e = true ∧ e.on = k := by
  intro k hk
  have hi : i < ops.size := (Array.getElem?_eq_some_iff.1 ho).1
  have h1 := List.all_eq_true.1 (List.all_eq_true.1 h i (List.mem_range.2 hi)) k hk
  simp only [ho, Bool.or_eq_true, beq_iff_eq, Array.any_eq_true', Bool.and_eq_true] at h1
  exact h1
theorem wpAny_of_eachG {V : Nat → (Nat → Value) → World → Prop} {D : Nat → List Nat} {R : World → World → Prop} {a : Act} {W : World} {n : Nat} (hn : a.tmps.size = n) (hB : eachB ops n = true) (hD : DepB ops D = true)
    (hR : ∀ w w' w'', R w w' → R w' w'' → R w w'') (hV : ∀ i f f' w w', R W w → R w w' → (∀ k ∈ D i, f' k = f k) → V i f w → V i f' w')
    (hop : ∀ i o, ops[i]? = some o → ∀ (A : Act) (w : World), R W w → A.tmps.size = a.tmps.size → (∀ t, ownSlot ops t = false → A.tmps.getD t undef = a.tmps.getD t undef) →
      (∀ e ∈ o.after, Region.binds .any e = true → V e.on (slotJ ops A) w) →
      ∀ K : Act → World → Prop, Shut (∀ v w', R w w' → V i (slotJ ops (A.put o.dst v)) w' → K (A.put o.dst v) w') → if Region.wanted o (yielded ops A.tmps) = true then Oper.wp P o A w K Q else K (A.put o.dst undef) w)
    (hend : ∀ A w', R W w' → (∀ j, j < ops.size → V j (slotJ ops A) w') → putAll ops (slotJ ops A) a = A → Q .normal A w') :
    ∀ (fuel : Nat) (listed : Array Bool) (A : Act) (w : World), listed.size = ops.size → listed.toList.count false = fuel → EachG ops V D R a W listed A w → wpAny P .any ops Q fuel listed A w := by
  have fin : ∀ (listed : Array Bool) (A : Act) (w : World), listed.size = ops.size → listed.toList.count false = 0 → EachG ops V D R a W listed A w → Q .normal A w := fun listed A w hs hc I => by
    have all : ∀ j, j < ops.size → listed.getD j false = true := fun j hj => by
      have hj' : j < listed.size := by omega
      have h0 := List.count_eq_zero.1 hc
      have h1 : listed[j] ≠ false := fun e => h0 (by rw [← e]; simp)
      simpa [hj'] using h1
    exact hend _ w I.rel (fun j hj => I.val j (all j hj)) (putAll_eq hB hn I.size I.defers I.out)
  intro fuel
  induction fuel with
  | zero =>
    intro listed A w hs hc I
    refine ⟨?_, fin listed A w hs hc I⟩
    refine List.filter_eq_nil_iff.2 (fun i hi => ?_)
    have hi' : i < listed.size := by rw [hs]; exact List.mem_range.1 hi
    have h0 := List.count_eq_zero.1 hc
    have h1 : listed[i] ≠ false := fun e => h0 (by rw [← e]; simp)
    have h2 : listed[i] = true := by simpa using h1
    simp [hi', h2]
  | succ fuel ih =>
    intro listed A w hs hc I
    refine ⟨fun hr => ?_, fun i hi => ?_⟩
    · exfalso
      have key : ∀ m j, j < m → j < ops.size → listed.getD j false = true := by
        intro m
        induction m with
        | zero => intro j h; omega
        | succ m ihm =>
          intro j hj hjs
          have hjl : j < listed.size := by omega
          have h1 := List.filter_eq_nil_iff.1 hr j (List.mem_range.2 hjs)
          have ho : ops[j]? = some ops[j] := Array.getElem?_eq_getElem hjs
          have h2 : (ops[j].after.all fun e => !Region.binds .any e || listed.getD e.on false) = true := by
            refine Array.all_eq_true_iff_forall_mem.2 (fun e he => ?_)
            have := eachB_after hB ho e he
            rw [ihm e.on (by omega) (by omega)]; simp
          simp only [ho, Option.map_some, Option.getD_some, h2, Bool.and_true] at h1
          simpa [hjl] using h1
      have : listed.toList.count false = 0 := List.count_eq_zero.2 (fun hm => by
        obtain ⟨j, hj, e⟩ := List.getElem_of_mem hm
        have hj' : j < listed.size := by simpa using hj
        have h1 := key (j + 1) j (by omega) (by omega)
        have e' : listed[j] = false := by simpa using e
        simp [hj', e'] at h1)
      omega
    · obtain ⟨hun, o, ho, hall⟩ := mem_ready.1 hi
      have his : i < ops.size := (Array.getElem?_eq_some_iff.1 ho).1
      have hil : i < listed.size := by omega
      have hlf : listed[i] = false := by simpa [hil] using hun
      have hc' : (listed.setIfInBounds i true).toList.count false = fuel := by
        have : (listed.setIfInBounds i true).toList = listed.toList.set i true := by simp
        rw [this, List.count_set (by simpa using hil)]
        have : (listed.toList[i]'(by simpa using hil)) = false := by simpa using hlf
        rw [this, hc]
        rfl
      have hnext : Shut (∀ v w', R w w' → V i (slotJ ops (A.put o.dst v)) w' → wpAny P .any ops Q fuel (listed.setIfInBounds i true) (A.put o.dst v) w') := fun v w' hR' hv => by
        refine ih _ _ _ (by simp [hs]) hc' ⟨hR _ _ _ I.rel hR', by rw [put_defers', I.defers], by rw [put_size, I.size], fun t ht => ?_, fun j hj => ?_, fun j hj k hk => ?_⟩
        · rw [put_getD_ne A v (fun e => by rw [own_of ho e] at ht; cases ht)]
          exact I.out t ht
        · by_cases e : j = i
          · subst e
            exact hv
          · have hjl : listed.getD j false = true := by simpa [Array.getElem?_setIfInBounds, Ne.symm e] using hj
            refine hV _ _ _ _ _ I.rel hR' (fun k hk => ?_) (I.val j hjl)
            have hkl := I.dl j hjl k hk
            refine slotJ_put_ne hB ho (fun ek => ?_) v
            subst ek
            simp [hil, hlf] at hkl
        · have set_of : ∀ k, listed.getD k false = true → (listed.setIfInBounds i true).getD k false = true := fun k hk => by
            by_cases ek : k = i
            · subst ek
              simp [hil]
            · simpa [Array.getElem?_setIfInBounds, Ne.symm ek] using hk
          by_cases e : j = i
          · subst e
            rcases depB_is hD ho k hk with rfl | ⟨e', he', hb', rfl⟩
            · simp [hil]
            · exact set_of _ (hall e' he' hb')
          · exact set_of _ (I.dl j (by simpa [Array.getElem?_setIfInBounds, Ne.symm e] using hj) k hk)
      have h1 := hop i o ho A w I.rel I.size I.out (fun e he hb => I.val _ (hall e he hb)) _ hnext
      unfold wpOp
      simp only [ho]
      split
      · rename_i hw
        rw [if_pos hw] at h1
        exact .inl h1
      · rename_i hw
        rw [if_neg hw] at h1
        exact h1
theorem wp_region_eachG {id : Nat} {a : Act} {W : World} (V : Nat → (Nat → Value) → World → Prop) (D : Nat → List Nat) (R : World → World → Prop) (n : Nat) (hm : P.follows .mixedOrders = true) (hn : a.tmps.size = n) (hB : eachB ops n = true) (hD : DepB ops D = true)
    (hR0 : R W W.drew) (hR : ∀ w w' w'', R w w' → R w' w'' → R w w'') (hV : ∀ i f f' w w', R W w → R w w' → (∀ k ∈ D i, f' k = f k) → V i f w → V i f' w')
    (hop : ∀ i o, ops[i]? = some o → ∀ (A : Act) (w : World), R W w → A.tmps.size = a.tmps.size → (∀ t, ownSlot ops t = false → A.tmps.getD t undef = a.tmps.getD t undef) →
      (∀ e ∈ o.after, Region.binds .any e = true → V e.on (slotJ ops A) w) →
      ∀ K : Act → World → Prop, Shut (∀ v w', R w w' → V i (slotJ ops (A.put o.dst v)) w' → K (A.put o.dst v) w') → if Region.wanted o (yielded ops A.tmps) = true then Oper.wp P o A w K Q else K (A.put o.dst undef) w)
    (hend : ∀ A w', R W w' → (∀ j, j < ops.size → V j (slotJ ops A) w') → putAll ops (slotJ ops A) a = A → Q .normal A w') : (Code.region id ops true).wp P Q a W :=
  wp_region_any hm (wpAny_of_eachG hn hB hD hR hV hop hend ops.size _ a _ (by simp) (by simp) ⟨hR0, rfl, rfl, fun _ _ => rfl, fun j hj => by
    exfalso
    rcases Nat.lt_or_ge j ops.size with h | h
    · simp [h] at hj
    · simp [Array.getElem?_eq_none (show (Array.replicate ops.size false).size ≤ j by simpa using h)] at hj, fun j hj => by
    exfalso
    rcases Nat.lt_or_ge j ops.size with h | h
    · simp [h] at hj
    · simp [Array.getElem?_eq_none (show (Array.replicate ops.size false).size ≤ j by simpa using h)] at hj⟩)
/-- One operation's part, with marks. -/
def EachOpM (P : Program) (ops : Array Oper) (Q : Exit → Act → World → Prop) {R : World → World → Prop} (L : List (Know R)) (M : Nat → (Nat → Value) → World → Prop) (a : Act) (W : World) (i : Nat) (o : Oper) : Prop :=
  ∀ (A : Act) (w : World), R W w → (∀ t, ownSlot ops t = false → A.tmps[t]?.getD undef = a.eval (.tmp t)) → (∀ t, waitsB ops o t = true → knowAt L t (A.tmps[t]?.getD undef) w) →
    (∀ j, (o.after.any (fun e => Region.binds .any e && e.on == j) && ((ops[j]?).bind (·.dst) == none)) = true → M j (slotJ ops A) w) →
    ∀ K : Act → World → Prop, Shut (∀ v w', R w w' → (match o.dst with | some d => knowAt L d v w' | none => M i (slotJ ops A) w') → K (A.put o.dst v) w') → if Region.wanted o (yielded ops A.tmps) = true then Oper.wp P o A w K Q else K (A.put o.dst undef) w
def EachOpsM (P : Program) (ops : Array Oper) (Q : Exit → Act → World → Prop) {R : World → World → Prop} (L : List (Know R)) (M : Nat → (Nat → Value) → World → Prop) (a : Act) (W : World) : Nat → List Oper → Prop
  | _, [] => True
  | i, o :: l => EachOpM P ops Q L M a W i o ∧ EachOpsM P ops Q L M a W (i + 1) l
theorem EachOpsM.get {R : World → World → Prop} {L : List (Know R)} {M : Nat → (Nat → Value) → World → Prop} {a : Act} {W : World} : ∀ {l : List Oper} {k i : Nat} {o : Oper}, EachOpsM P ops Q L M a W k l → l[i]? = some o → EachOpM P ops Q L M a W (k + i) o
  | [], _, _, _, _, h => by simp at h
  | x :: l, k, 0, o, h, e => by simp at e; exact e ▸ h.1
  | x :: l, k, i + 1, o, h, e => by
    have := EachOpsM.get h.2 (i := i) (by simpa using e)
    rwa [show k + 1 + i = k + (i + 1) by omega] at this
theorem wp_region_marks {id : Nat} {a : Act} {W : World} {l : List Oper} {R : World → World → Prop} (L : List (Know R)) (M : Nat → (Nat → Value) → World → Prop) (Dm : Nat → List Nat) (n : Nat) (hm : P.follows .mixedOrders = true) (hn : a.tmps.size = n) (hB : eachB l.toArray n = true) (hD : DepB l.toArray (fun i => i :: Dm i) = true)
    (hR0 : R W W.drew) (hR : ∀ w w' w'', R w w' → R w' w'' → R w w'') (hM : ∀ i f f' w w', R w w' → (∀ k ∈ Dm i, f' k = f k) → M i f w → M i f' w') (hop : ∀ Q', EachOpsM P l.toArray Q' L M a W 0 l)
    (hend : ∀ (f : Nat → Value) (w' : World), R W w' → (∀ t, ownSlot l.toArray t = true → knowAt L t (f t) w') → Q .normal (putSl f l a) w') : (Code.region id l.toArray true).wp P Q a W := by
  refine wp_region_eachG (fun i f w => match (l.toArray[i]?).bind (·.dst) with | some d => knowAt L d (f i) w | none => M i f w) (fun i => i :: Dm i) R n hm hn hB hD hR0 hR (fun i f f' w w' _ hR' hf h => ?_) (fun i o ho A w hW hs hout hdep K hK => ?_) (fun A w' hW hv he => ?_)
  · cases c : (l.toArray[i]?).bind (·.dst) with
    | none => simp only [c] at h ⊢; exact hM i f f' w w' hR' (fun k hk => hf k (List.mem_cons_of_mem _ hk)) h
    | some d =>
      simp only [c] at h ⊢
      rw [hf i List.mem_cons_self]
      exact knowAt_st L d (f i) w w' hR' h
  · have hop' := (hop Q).get (i := i) (by simpa using ho)
    rw [Nat.zero_add] at hop'
    refine hop' A w hW (fun t ht => by rw [← Array.getD_eq_getD_getElem?]; exact hout t ht) (fun t ht => ?_) (fun j hj => ?_) K (fun v w' hR' hv => hK v w' hR' ?_)
    · unfold waitsB at ht
      simp only [Array.any_eq_true', Bool.and_eq_true, beq_iff_eq] at ht
      obtain ⟨e, he, hb, hd⟩ := ht
      have h1 := hdep e he hb
      simp only [hd, slotJ] at h1
      rw [← Array.getD_eq_getD_getElem?]
      exact h1
    · simp only [Array.any_eq_true', Bool.and_eq_true, beq_iff_eq] at hj
      obtain ⟨⟨e, he, hb, rfl⟩, hd⟩ := hj
      have h1 := hdep e he hb
      simp only [hd] at h1
      exact h1
    · simp only [ho, Option.bind_some]
      cases c : o.dst with
      | none => rw [c] at hv; exact hv
      | some d =>
        rw [c] at hv
        have := slotJ_put_self hB (by rw [hs, hn]) ho v (A := A)
        rw [c] at this
        simp only [Option.isSome_some, if_true] at this
        rw [this]
        exact hv
  · rw [← he, putAll_sl]
    refine hend _ w' hW (fun t ht => ?_)
    obtain ⟨i, o, ho, hd⟩ := of_own ht
    have h1 := hv i (Array.getElem?_eq_some_iff.1 ho).1
    simp only [ho, Option.bind_some, hd, slotJ] at h1
    exact h1
end
end Go.Proofs.YtkpmkgkfpikpfaaGreat
namespace Go.Proofs.YtkpmkgkfpikpfaaGreat
open Go.RowKit
set_option linter.unusedVariables false
set_option linter.unusedSimpArgs false
set_option maxRecDepth 100000
theorem mapR_no {ms cs ps : List (Nat × Int)} {bs first n : Nat} {prot : Int} (h : (mapR ms cs ps bs first n prot).1 ≠ 0) : mapR ms cs ps bs first n prot = ((mapR ms cs ps bs first n prot).1, ms, cs, ps) := by
  revert h
  unfold mapR
  split
  · intro _; rfl
  split
  · intro _; rfl
  split
  · intro h; exact absurd rfl h
  · intro _; rfl
theorem mapR_yes {ms cs ps : List (Nat × Int)} {bs first n : Nat} {prot : Int} (h : (mapR ms cs ps bs first n prot).1 = 0) : (mapR ms cs ps bs first n prot).2.2.2 = lo ps first ++ added first prot n ++ hi ps (first + n - 1) ∧ protOk prot = true := by
  revert h
  unfold mapR
  split
  · intro h; simp at h
  rename_i hg
  split
  · intro h; simp at h
  split
  · intro _
    refine ⟨rfl, ?_⟩
    simp at hg
    exact hg.2
  · intro h; simp at h
theorem mm_no {ms cs ps : List (Nat × Int)} {bs st en a n : Nat} {prot : Int} {fixed : Bool} {R : GRes} {at_ : Nat} (h : MmIs ms cs ps bs st en a n prot fixed R at_) (h0 : R.1 ≠ 0) : R = (R.1, ms, cs, ps) ∧ at_ = 0 := by
  rcases h with ⟨_, rfl, e⟩ | ⟨_, f, err, _, ⟨he, rfl, e⟩ | ⟨rfl, hR, e⟩⟩
  · exact ⟨rfl, e⟩
  · exact ⟨rfl, e⟩
  · rw [if_neg h0] at e
    refine ⟨?_, e⟩
    rw [hR] at h0 ⊢
    exact mapR_no h0
theorem mm_yes {ms cs ps : List (Nat × Int)} {bs st en a n : Nat} {prot : Int} {R : GRes} {at_ : Nat} (hf : FitG ms cs ps bs) (h : MmIs ms cs ps bs st en a n prot false R at_) (h0 : R.1 = 0) :
    ∃ f : Nat, at_ = f * 4096 ∧ 0 < f ∧ f + pgN n ≤ 458752 ∧ 0 < pgN n ∧ R.2.2.2.length = ps.length + pgN n ∧ (∀ i : Nat, i < pgN n → protN ps (f + i) = -1 ∧ protN R.2.2.2 (f + i) = prot) ∧ (∀ x ∈ ps, protN R.2.2.2 x.1 = x.2) := by
  rcases h with ⟨_, rfl, _⟩ | ⟨hb, f, err, hfp, ⟨he, rfl, _⟩ | ⟨rfl, hR, hat⟩⟩
  · simp at h0
  · exact absurd h0 he
  have hn : n ≠ 0 := fun e => hb (.inl e)
  have hpn : 0 < pgN n := by unfold pgN; omega
  rw [h0, if_pos rfl] at hat
  have key : 0 < f ∧ f + pgN n ≤ 458752 ∧ ∀ x ∈ ps, x.1 < f ∨ f + pgN n ≤ x.1 := by
    rcases hfp with ⟨_, _, he⟩ | ⟨_, ⟨hc, _⟩ | ⟨_, ha, hm, hl, hs⟩, rfl, _⟩ | ⟨_, _, _, ts, hp, hr, hF, he⟩
    · simp at he
    · simp at hc
    · exact ⟨by omega, hl, someB_free hs⟩
    · cases hs : frR (pgN n) (bwT ts ts.length) 458752 with
      | none => rw [hs] at he; simp at he
      | some g =>
      rw [hs] at hF
      obtain rfl : f = g := by simpa using hF
      obtain ⟨g1, g2, g3, _⟩ := fr_free hp hr hpn hs
      exact ⟨g1, g2, g3⟩
  obtain ⟨g1, g2, g3⟩ := key
  rw [hR] at h0
  have hm : mid ps f (f + pgN n - 1) = [] := mid_nil (fun x h => by have := g3 x h; omega)
  obtain ⟨hL, _⟩ := mapR_yes h0
  refine ⟨f, hat, g1, g2, hpn, ?_, fun i hi => ⟨?_, ?_⟩, fun x hx => ?_⟩
  · rw [hR, hL, new_len hf.sp (by omega), hm]; rfl
  · exact protN_none' (fun x hx e => by have := g3 x hx; omega)
  · rw [hR, hL]
    exact prot_map_in hf.sp rfl (by omega) (by omega) (by omega)
  · rw [hR, hL, prot_map_out hf.sp rfl (by omega) (g3 x hx)]
    exact protN_in hf.sp hx
end Go.Proofs.YtkpmkgkfpikpfaaGreat
namespace Go.Proofs.YtkpmkgkfpikpfaaGreat
open Go.RowKit
set_option linter.unusedVariables false
set_option linter.unusedSimpArgs false
set_option maxRecDepth 100000
def inR (a n p : Nat) : Bool := decide (a / 4096 ≤ p ∧ p - a / 4096 < pgN n)
theorem mpr_no {ms cs ps : List (Nat × Int)} {a n : Nat} {prot : Int} (h : (mprR ms cs ps a n prot).1 ≠ 0) : mprR ms cs ps a n prot = ((mprR ms cs ps a n prot).1, ms, cs, ps) := by
  revert h
  unfold mprR
  split
  · intro _; rfl
  split
  · intro _; rfl
  split
  · intro _; rfl
  unfold protR
  split
  · intro _; rfl
  by_cases g : (mid ps (a / 4096) (a / 4096 + pgN n - 1)).length = pgN n
  · simp only [if_pos g]; intro h; exact absurd rfl h
  · simp only [if_neg g]; intro _; trivial
theorem mpr_len (ms cs ps : List (Nat × Int)) (a n : Nat) (prot : Int) : (mprR ms cs ps a n prot).2.2.2.length = ps.length := by
  unfold mprR
  split
  · rfl
  split
  · rfl
  split
  · rfl
  unfold protR
  split
  · rfl
  show (if _ then _ else _ : List (Nat × Int)).length = _
  split
  · simp [protL]
  · rfl
theorem protX_key (f l : Nat) (prot : Int) (x : Nat × Int) : (protX f l prot x).1 = x.1 := by unfold protX; split <;> rfl
theorem protL_srt {ps : List (Nat × Int)} (h : Srt ps) (f l : Nat) (prot : Int) : Srt (protL f l prot ps) := by
  unfold protL Srt
  rw [List.pairwise_map]
  refine List.Pairwise.imp ?_ h
  intro x y hxy
  rw [protX_key, protX_key]
  exact hxy
theorem protL_at {ps : List (Nat × Int)} (h : Srt ps) (f l : Nat) (prot : Int) {x : Nat × Int} (hx : x ∈ ps) : protN (protL f l prot ps) x.1 = (protX f l prot x).2 := by
  have k := protN_in (protL_srt h f l prot) (x := protX f l prot x) (List.mem_map.2 ⟨x, hx, rfl⟩)
  rw [protX_key] at k
  exact k
theorem mpr_yes {ms cs ps : List (Nat × Int)} {a n : Nat} {prot : Int} (hs : Srt ps) (h : (mprR ms cs ps a n prot).1 = 0) {x : Nat × Int} (hx : x ∈ ps) : protN (mprR ms cs ps a n prot).2.2.2 x.1 = if inR a n x.1 = true then prot else x.2 := by
  revert h
  unfold mprR
  split
  · intro h; simp at h
  split
  · rename_i hn
    intro _
    have : inR a n x.1 = false := by unfold inR; rw [hn]; simp [pgN]
    rw [this]
    simp only [Bool.false_eq_true, if_false]
    exact protN_in hs hx
  split
  · intro h; simp at h
  unfold protR
  split
  · intro h; simp at h
  rename_i hn _ _
  have hpn : 0 < pgN n := by unfold pgN; omega
  by_cases g : (mid ps (a / 4096) (a / 4096 + pgN n - 1)).length = pgN n
  · simp only [if_pos g]
    intro _
    rw [protL_at hs _ _ _ hx]
    unfold protX inR
    by_cases g2 : a / 4096 ≤ x.1 ∧ x.1 ≤ a / 4096 + pgN n - 1
    · rw [if_pos g2, if_pos (decide_eq_true (by omega))]
    · rw [if_neg g2, if_neg (by simp; omega)]
  · simp only [if_neg g]; intro h; simp at h
theorem mun_no {ms cs ps : List (Nat × Int)} {bs a n : Nat} (h : (munR ms cs ps bs a n).1 ≠ 0) : munR ms cs ps bs a n = ((munR ms cs ps bs a n).1, ms, cs, ps) := by
  revert h
  unfold munR
  split
  · intro _; rfl
  unfold unmapR
  split
  · intro _; rfl
  · intro h; exact absurd rfl h
theorem mun_yes {ms cs ps : List (Nat × Int)} {bs a n : Nat} (hs : Srt ps) (h : (munR ms cs ps bs a n).1 = 0) {x : Nat × Int} (hx : x ∈ ps) : protN (munR ms cs ps bs a n).2.2.2 x.1 = if inR a n x.1 = true then -1 else x.2 := by
  revert h
  unfold munR
  split
  · intro h; simp at h
  rename_i hg
  unfold unmapR
  split
  · intro h; simp at h
  intro _
  have hpn : 0 < pgN n := by unfold pgN; omega
  unfold inR
  by_cases g : a / 4096 ≤ x.1 ∧ x.1 - a / 4096 < pgN n
  · rw [if_pos (decide_eq_true g)]
    exact prot_cut_in rfl (by omega) g.1 (by omega)
  · rw [if_neg (by simp; omega)]
    show protN (lo ps (a / 4096) ++ hi ps (a / 4096 + pgN n - 1)) x.1 = x.2
    rw [prot_cut_out hs rfl (by omega) (by omega)]
    exact protN_in hs hx
end Go.Proofs.YtkpmkgkfpikpfaaGreat
namespace Go.Proofs.YtkpmkgkfpikpfaaGreat
open Go.RowKit Go.Maps
set_option linter.unusedVariables false
set_option linter.unusedSimpArgs false
set_option maxRecDepth 100000
abbrev LM := List (Lit × DataW Unit)
def MapAt (w : World) (b : Nat) (L : LM) : Prop := w.ownsMap (H := Unit) Tryz.prog 4 (plainElem Tryz.prog 3) b 2 (.map L)
def GoodL (p r : Int) (L : LM) : Prop := L = [] ∨ L = [(.bool true, .lit (.int .i64 p))] ∨ L = [(.bool false, .lit (.int .i64 r))] ∨ L = [(.bool false, .lit (.int .i64 r)), (.bool true, .lit (.int .i64 p))]
def HasT (p r : Int) (L : LM) : Prop := L = [(.bool true, .lit (.int .i64 p))] ∨ L = [(.bool false, .lit (.int .i64 r)), (.bool true, .lit (.int .i64 p))]
def HasF (p r : Int) (L : LM) : Prop := L = [(.bool false, .lit (.int .i64 r))] ∨ L = [(.bool false, .lit (.int .i64 r)), (.bool true, .lit (.int .i64 p))]
theorem MapAt.one {w : World} {b : Nat} {L L' : LM} (h : MapAt w b L) (h' : MapAt w b L') : L = L' := by
  obtain ⟨es, cl, hb, _, _, hD⟩ := h
  obtain ⟨es', cl', hb', _, _, hD'⟩ := h'
  rw [hb] at hb'
  cases hb'
  rw [← hD'] at hD
  cases hD
  rfl
theorem MapAt.low {w : World} {b n : Nat} {L : LM} (h : w.ownsMap (H := Unit) Tryz.prog 4 (plainElem Tryz.prog 3) b n (.map L)) (hL : L.length ≤ 2) : MapAt w b L := by
  obtain ⟨es, cl, hb, F, hs, hD⟩ := h
  refine ⟨es, cl, hb, F, ?_, hD⟩
  have e : L = (es.toList.map (Go.WideElems.rg Tryz.prog 4 (plainElem Tryz.prog 3))).foldr DataW.insert [] := by cases hD; rfl
  have e1 : L.length = es.size := by rw [e, length_sorted]; simp
  omega
theorem MapAt.keep {w w' : World} {b : Nat} {L : LM} (h : MapAt w b L) (hb : Below w.heap.size w w') : MapAt w' b L := by
  have hlt := World.ownsMap.lt h
  obtain ⟨es, cl, hbk, F, hs, hD⟩ := h
  exact ⟨es, cl, (hb.block b hlt).trans hbk, F, hs, hD⟩
/-- The worlds of such a region. -/
def RM (p r : Int) (B : Nat) (w w' : World) : Prop := Below B w w' ∧ ∀ b L, MapAt w b L → GoodL p r L → ∃ L', MapAt w' b L' ∧ GoodL p r L' ∧ (HasT p r L → HasT p r L') ∧ (HasF p r L → HasF p r L')
theorem RM.refl (p r : Int) (B : Nat) (w : World) : RM p r B w w := ⟨Below.refl _ _, fun b L h g => ⟨L, h, g, id, id⟩⟩
theorem RM.trans {p r : Int} {B : Nat} {w w' w'' : World} (h : RM p r B w w') (h' : RM p r B w' w'') : RM p r B w w'' :=
  ⟨h.1.trans h'.1, fun b L m g => by
    obtain ⟨L1, m1, g1, t1, f1⟩ := h.2 b L m g
    obtain ⟨L2, m2, g2, t2, f2⟩ := h'.2 b L1 m1 g1
    exact ⟨L2, m2, g2, t2 ∘ t1, f2 ∘ f1⟩⟩
theorem RM.of {p r : Int} {B : Nat} {w w' : World} (h : Below w.heap.size w w') (hB : B ≤ w.heap.size) : RM p r B w w' := ⟨h.mono hB, fun b L m g => ⟨L, m.keep h, g, id, id⟩⟩
theorem RM.drew (p r : Int) (B : Nat) (w : World) : RM p r B w w.drew := ⟨Below.drew (Below.refl _ _), fun b L m g => ⟨L, m, g, id, id⟩⟩
theorem map_made (p r : Int) (w : World) : MapAt (w.alloc (.map #[] 0)) w.heap.size [] := MapAt.low (World.ownsMap_made w _ _ _) (by simp)
theorem map_ins {p r : Int} {B b : Nat} {w : World} {L : LM} (m : MapAt w b L) (g : GoodL p r L) (hB : B ≤ b) (k : Bool) (x : Int) (hx : x = if k then p else r) (hwf : (Lit.int .i64 x).wf = true) :
    ∃ w', (Instr.mapUpdate 55 (.map (some b)) (.bool k) (.int .i64 x)).run Tryz.prog w = .ok () w' ∧ RM p r B w w' ∧ ∃ L', MapAt w' b L' ∧ GoodL p r L' ∧ (k = true → HasT p r L') ∧ (k = false → HasF p r L') := by
  obtain ⟨w', hrun, hown, hg⟩ := World.ownsMap.update m (bool_keyed Tryz.underlying4) Tryz.underlying55 (by unfold maxLen; omega) (keyOf_bool_mk Tryz.underlying4 k) (plainElem_int Tryz.underlying3 hwf)
  have hblt := World.ownsMap.lt m
  have key : ∃ L', MapAt w' b L' ∧ GoodL p r L' ∧ (HasT p r L → HasT p r L') ∧ (HasF p r L → HasF p r L') ∧ (k = true → HasT p r L') ∧ (k = false → HasF p r L') := by
    cases k with
    | true =>
      obtain rfl : x = p := by simpa using hx
      rcases g with rfl | rfl | rfl | rfl
      · exact ⟨_, MapAt.low hown (Nat.le_of_ble_eq_true rfl), .inr (.inl rfl), fun h => (by rcases h with h | h <;> cases h), fun h => (by rcases h with h | h <;> cases h), fun _ => .inl rfl, fun h => by cases h⟩
      · exact ⟨_, MapAt.low hown (Nat.le_of_ble_eq_true rfl), .inr (.inl rfl), fun _ => .inl rfl, fun h => (by rcases h with h | h <;> cases h), fun _ => .inl rfl, fun h => by cases h⟩
      · exact ⟨_, MapAt.low hown (Nat.le_of_ble_eq_true rfl), .inr (.inr (.inr rfl)), fun h => (by rcases h with h | h <;> cases h), fun _ => .inr rfl, fun _ => .inr rfl, fun h => by cases h⟩
      · exact ⟨_, MapAt.low hown (Nat.le_of_ble_eq_true rfl), .inr (.inr (.inr rfl)), fun _ => .inr rfl, fun _ => .inr rfl, fun _ => .inr rfl, fun h => by cases h⟩
    | false =>
      obtain rfl : x = r := by simpa using hx
      rcases g with rfl | rfl | rfl | rfl
      · exact ⟨_, MapAt.low hown (Nat.le_of_ble_eq_true rfl), .inr (.inr (.inl rfl)), fun h => (by rcases h with h | h <;> cases h), fun h => (by rcases h with h | h <;> cases h), (fun h => by cases h), fun _ => .inl rfl⟩
      · exact ⟨_, MapAt.low hown (Nat.le_of_ble_eq_true rfl), .inr (.inr (.inr rfl)), fun _ => .inr rfl, fun h => (by rcases h with h | h <;> cases h), (fun h => by cases h), fun _ => .inr rfl⟩
      · exact ⟨_, MapAt.low hown (Nat.le_of_ble_eq_true rfl), .inr (.inr (.inl rfl)), fun h => (by rcases h with h | h <;> cases h), fun _ => .inl rfl, (fun h => by cases h), fun _ => .inl rfl⟩
      · exact ⟨_, MapAt.low hown (Nat.le_of_ble_eq_true rfl), .inr (.inr (.inr rfl)), fun _ => .inr rfl, fun _ => .inr rfl, (fun h => by cases h), fun _ => .inr rfl⟩
  obtain ⟨L', m', g', t1, f1, t2, f2⟩ := key
  refine ⟨w', hrun, ⟨(Below.refl B w).grown hg (Nat.le_of_lt (Nat.lt_of_le_of_lt hB hblt)) (fun j hj => by cases hj; exact hB), fun b2 L2 m2 g2 => ?_⟩, L', m', g', t2, f2⟩
  by_cases e : b2 = b
  · subst e
    obtain rfl := m.one m2
    exact ⟨L', m', g', t1, f1⟩
  · exact ⟨L2, World.ownsMap.kept m2 hg (fun h => e (by cases h; rfl)), g2, id, id⟩
theorem zero3 (w : World) : (zeroValue 3).run Tryz.prog w = .ok (.int .i64 0) w := by kernel_rfl
theorem map_look {p r : Int} {b : Nat} {w : World} {L : LM} (m : MapAt w b L) (h1 : HasT p r L) (h2 : HasF p r L) (k : Bool) :
    (Instr.lookup 55 (.map (some b)) (.bool k) false).run Tryz.prog w = .ok (.int .i64 (if k then p else r)) w := by
  have hL : L = [(.bool false, .lit (.int .i64 r)), (.bool true, .lit (.int .i64 p))] := by
    rcases h1 with rfl | rfl
    · rcases h2 with h | h <;> cases h
    · rfl
  subst hL
  obtain ⟨c, hrun, hat, _⟩ := World.ownsMap.lookup_int m (bool_keyed Tryz.underlying4) Tryz.underlying55 Tryz.underlying3 (zero3 w) (keyOf_bool_mk Tryz.underlying4 k)
  rw [hrun]
  cases k with
  | true =>
    have e : (.lit (.int .i64 p) : DataW Unit) = .lit (.int .i64 c) := hat
    cases e
    rfl
  | false =>
    have e : (.lit (.int .i64 r) : DataW Unit) = .lit (.int .i64 c) := hat
    cases e
    rfl
def MarkM (p r : Int) (i : Nat) (f : Nat → Value) (w : World) : Prop := (i = 10 → ∃ b L, f 8 = .map (some b) ∧ MapAt w b L ∧ GoodL p r L ∧ HasT p r L) ∧ (i = 13 → ∃ b L, f 8 = .map (some b) ∧ MapAt w b L ∧ GoodL p r L ∧ HasF p r L)
def depM (i : Nat) : List Nat := if i == 10 || i == 13 then [8] else []
theorem MarkM.keep {p r : Int} {B : Nat} (i : Nat) (f f' : Nat → Value) (w w' : World) (hR : RM p r B w w') (hf : ∀ k ∈ depM i, f' k = f k) (h : MarkM p r i f w) : MarkM p r i f' w' := by
  refine ⟨fun e => ?_, fun e => ?_⟩
  · obtain ⟨b, L, e1, m, g, t⟩ := h.1 e
    obtain ⟨L', m', g', t', _⟩ := hR.2 b L m g
    exact ⟨b, L', by rw [hf 8 (by rw [e]; simp [depM])]; exact e1, m', g', t' t⟩
  · obtain ⟨b, L, e1, m, g, t⟩ := h.2 e
    obtain ⟨L', m', g', _, t'⟩ := hR.2 b L m g
    exact ⟨b, L', by rw [hf 8 (by rw [e]; simp [depM])]; exact e1, m', g', t' t⟩
end Go.Proofs.YtkpmkgkfpikpfaaGreat
