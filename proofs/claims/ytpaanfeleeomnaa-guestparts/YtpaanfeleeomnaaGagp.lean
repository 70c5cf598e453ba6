/- What is proved here: pages that were mapped where none was, and taken away, leave all as it was, in plain words. -/
import Derived.Test.YtpaanfeleeomnaaGplain
import Derived.Test.YtpaanfeleeomnaaGrsame
namespace Go.Proofs.Ytpaanfeleeomnaa
open Go.RowKit
set_option linter.unusedVariables false
set_option linter.unusedSimpArgs false
set_option maxRecDepth 100000
theorem lo_new {ps : List (Nat × Int)} {first n last : Nat} {prot : Int} (hla : last = first + n - 1) (hn : n ≠ 0) : lo (lo ps first ++ added first prot n ++ hi ps last) first = lo ps first := by
  have h1 : lo (lo ps first) first = lo ps first := List.filter_eq_self.2 (fun x hx => by simpa using (lo_mem.1 hx).2)
  have h2 : lo (added first prot n) first = [] := List.filter_eq_nil_iff.2 (fun x hx => by obtain ⟨i, _, rfl⟩ := added_mem.1 hx; simp)
  have h3 : lo (hi ps last) first = [] := List.filter_eq_nil_iff.2 (fun x hx => by have := (hi_mem.1 hx).2; simp; omega)
  have h4 : ∀ A B : List (Nat × Int), lo (A ++ B) first = lo A first ++ lo B first := fun A B => List.filter_append _ _
  rw [h4, h4, h1, h2, h3]; simp
theorem hi_new {ps : List (Nat × Int)} {first n last : Nat} {prot : Int} (hla : last = first + n - 1) (hn : n ≠ 0) : hi (lo ps first ++ added first prot n ++ hi ps last) last = hi ps last := by
  have h1 : hi (lo ps first) last = [] := List.filter_eq_nil_iff.2 (fun x hx => by have := (lo_mem.1 hx).2; simp; omega)
  have h2 : hi (added first prot n) last = [] := List.filter_eq_nil_iff.2 (fun x hx => by obtain ⟨i, _, rfl⟩ := added_mem.1 hx; simp; omega)
  have h3 : hi (hi ps last) last = hi ps last := List.filter_eq_self.2 (fun x hx => by simpa using (hi_mem.1 hx).2)
  have h4 : ∀ A B : List (Nat × Int), hi (A ++ B) last = hi A last ++ hi B last := fun A B => List.filter_append _ _
  rw [h4, h4, h1, h2, h3]; simp
theorem mid_new {ps : List (Nat × Int)} {first n last : Nat} {prot : Int} (hla : last = first + n - 1) (hn : n ≠ 0) : mid (lo ps first ++ added first prot n ++ hi ps last) first last = added first prot n := by
  have h1 : mid (lo ps first) first last = [] := List.filter_eq_nil_iff.2 (fun x hx => by have := (lo_mem.1 hx).2; simp; omega)
  have h2 : mid (added first prot n) first last = added first prot n := List.filter_eq_self.2 (fun x hx => by obtain ⟨i, _, rfl⟩ := added_mem.1 hx; simp; omega)
  have h3 : mid (hi ps last) first last = [] := List.filter_eq_nil_iff.2 (fun x hx => by have := (hi_mem.1 hx).2; simp; omega)
  have h4 : ∀ A B : List (Nat × Int), mid (A ++ B) first last = mid A first last ++ mid B first last := fun A B => List.filter_append _ _
  rw [h4, h4, h1, h2, h3]; simp
theorem new_srt {ps : List (Nat × Int)} {first n last : Nat} {prot : Int} (hs : Srt ps) (hla : last = first + n - 1) (hn : n ≠ 0) : Srt (lo ps first ++ added first prot n ++ hi ps last) := by
  refine srt_join (srt_join (lo_srt hs _) (added_srt _ _ _) (fun x hx y hy => ?_)) (hi_srt hs _) (fun x hx y hy => ?_)
  · obtain ⟨i, _, rfl⟩ := added_mem.1 hy
    have := (lo_mem.1 hx).2
    simp; omega
  · have h2 := (hi_mem.1 hy).2
    rcases List.mem_append.1 hx with g | g
    · have := (lo_mem.1 g).2
      omega
    · obtain ⟨i, _, rfl⟩ := added_mem.1 g
      simp; omega
theorem new_mem {ps : List (Nat × Int)} {first n last : Nat} {prot : Int} {x : Nat × Int} (h : x ∈ lo ps first ++ added first prot n ++ hi ps last) : x ∈ ps ∨ (first ≤ x.1 ∧ x.1 < first + n ∧ x.2 = prot) := by
  rcases List.mem_append.1 h with g | g
  · rcases List.mem_append.1 g with g | g
    · exact Or.inl (lo_mem.1 g).1
    · obtain ⟨i, hi, rfl⟩ := added_mem.1 g
      exact Or.inr ⟨by simp, by simp; omega, rfl⟩
  · exact Or.inl (hi_mem.1 g).1
theorem new_len {ps : List (Nat × Int)} {first n last : Nat} {prot : Int} (hs : Srt ps) (hab : first ≤ last) : (lo ps first ++ added first prot n ++ hi ps last).length = ps.length - (mid ps first last).length + n := by
  have l := parts_len ps hs first last hab
  simp only [List.length_append, added_len]
  omega
/-- No byte of a page that is not there is other than 0. -/
theorem clear_free {ms cs ps : List (Nat × Int)} {bs first n last : Nat} (h : FitG ms cs ps bs) (hla : last = first + n - 1) (hn : n ≠ 0) (hb : first + n ≤ 1048576) (hm : mid ps first last = []) : clearN cs (bs + first * 4096) (n * 4096) = cs := by
  have hal := h.al
  have hle := h.le
  have e1 : cellOf (bs + first * 4096) = bs + first * 4096 := by unfold cellOf; omega
  have e2 : lastOf (bs + first * 4096) (n * 4096) = bs + first * 4096 + (n * 4096 - 1) := by unfold lastOf; omega
  have hc : mid cs (bs + first * 4096) (bs + first * 4096 + (n * 4096 - 1)) = [] := mid_nil (fun c hc => by
    by_cases g : c.1 < bs + first * 4096 ∨ bs + first * 4096 + (n * 4096 - 1) < c.1
    · exact g
    · exfalso
      have hi := h.rc c hc (by simp [inB]; omega)
      have : isIn ps ((c.1 - bs) / 4096) = false := by
        rw [isIn, List.any_eq_false]
        intro x hx
        simp
        intro e
        have : x ∈ mid ps first last := mid_mem.2 ⟨hx, by omega, by omega⟩
        rw [hm] at this
        simp at this
      rw [protN_no this] at hi
      omega)
  unfold clearN
  rw [if_neg (by omega), e1, e2, hc]
  have := parts cs h.fq.2.2.2.1 (bs + first * 4096) (bs + first * 4096 + (n * 4096 - 1)) (by omega)
  rw [hc] at this
  simpa [clears] using this.symm
theorem back_all {ms cs ps : List (Nat × Int)} {bs : Nat} (h : FitG ms cs ps bs) (ks : List K4) : rF ps bs (msF ps bs ms ks, cs) ks = (ms, cs) := by
  have hr := h.reach
  have hsm := h.fq.2.2.1
  have hsc := h.fq.2.2.2.1
  have hsF : Srt (msF ps bs ms ks) := by
    have : ∀ (l : List K4) (xs : List (Nat × Int)), Srt xs → Srt (msF ps bs xs l) := fun l => by
      induction l with
      | nil => exact fun xs hx => hx
      | cons k l ih => exact fun xs hx => ih _ (stepB_mono k hx).1
    exact this ks ms hsm
  obtain ⟨Q, hQ⟩ : ∃ Q : Nat → Bool, ∀ p, Q p = true ↔ ∀ k ∈ ks, usedN ps k.val = false → p ≠ hp bs k.val := ⟨fun p => ks.all (fun k => usedN ps k.val || decide (p ≠ hp bs k.val)), fun p => by
    rw [List.all_eq_true]
    refine ⟨fun g k hk hu => ?_, fun g k hk => ?_⟩
    · have := g k hk
      rw [hu] at this
      simpa using this
    · cases hu : usedN ps k.val with
      | true => simp
      | false => simpa using g k hk hu⟩
  have q1 : ∀ k ∈ ks, usedN ps k.val = false → Q (hp bs k.val) = false := fun k hk hu => by
    cases e : Q (hp bs k.val) with
    | false => rfl
    | true => exact absurd rfl ((hQ _).1 e k hk hu)
  have q2 : ∀ k ∈ ks, usedN ps k.val = false → ∀ p, p / 16384 = hp bs k.val → (fun p => Q (p / 16384)) p = false := fun k hk hu p e => by
    show Q (p / 16384) = false
    rw [e]; exact q1 k hk hu
  obtain ⟨r1, r2⟩ := rF_by (Q := Q) (Q' := fun p => Q (p / 16384)) ks (msF ps bs ms ks, cs) hsF hsc q1 q2
  obtain ⟨m1, m2⟩ := rF_mem (ps := ps) (bs := bs) ks (msF ps bs ms ks, cs)
  have hms : ∀ x ∈ ms, Q x.1 = true := fun x hx => (hQ _).2 (fun k _ hu => reach_new hr k hu x hx)
  have hcs : ∀ x ∈ cs, Q (x.1 / 16384) = true := fun x hx => by
    obtain ⟨y, hy, e⟩ := (h.fq.2.2.2.2.2 x hx).2.2
    rw [← e]; exact hms y hy
  have e1 : (rF ps bs (msF ps bs ms ks, cs) ks).1 = ms := by
    rw [← by_all (Q := Q) (fun x hx => (hQ _).2 (m1 x hx).2), r1, msF_by ks ms hsm q1, by_all hms]
  have e2 : (rF ps bs (msF ps bs ms ks, cs) ks).2 = cs := by
    rw [← by_all (Q := fun p => Q (p / 16384)) (fun x hx => hcs x (m2 x hx)), r2]
    exact by_all hcs
  exact Prod.ext e1 e2
/-- Map and then Unmap, where no page was. -/
theorem again_eq {ms cs ps : List (Nat × Int)} {bs first n last : Nat} {prot : Int} (h : FitG ms cs ps bs) (hla : last = first + n - 1) (hn : n ≠ 0) (hb : first + n ≤ 1048576) (hm : mid ps first last = []) :
    lo (lo ps first ++ added first prot n ++ hi ps last) first ++ hi (lo ps first ++ added first prot n ++ hi ps last) last = ps ∧
    rF ps bs (msF ps bs ms (ksM (added first prot n) n), clearN cs (bs + first * 4096) (n * 4096)) (ksM (mid (lo ps first ++ added first prot n ++ hi ps last) first last) (mid (lo ps first ++ added first prot n ++ hi ps last) first last).length) = (ms, cs) := by
  have hp := parts ps h.sp first last (by omega)
  rw [hm] at hp
  refine ⟨by rw [lo_new hla hn, hi_new hla hn]; simpa using hp.symm, ?_⟩
  rw [mid_new hla hn, added_len, clear_free h hla hn hb hm]
  exact back_all h _
end Go.Proofs.Ytpaanfeleeomnaa
