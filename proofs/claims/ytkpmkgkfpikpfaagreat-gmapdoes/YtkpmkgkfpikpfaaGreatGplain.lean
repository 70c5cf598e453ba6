/- What is proved here: what guests' memories keep when pages come and go, in plain words. -/
import Derived.Test.YtkpmkgkfpikpfaaGreatGfit
import Derived.Test.YtkpmkgkfpikpfaaGreatBackPlain
import Derived.Test.YtkpmkgkfpikpfaaGreatGdoc
namespace Go.Proofs.YtkpmkgkfpikpfaaGreat
open Go.RowKit
set_option linter.unusedVariables false
set_option linter.unusedSimpArgs false
set_option maxRecDepth 100000
def by_ (Q : Nat → Bool) (xs : List (Nat × Int)) : List (Nat × Int) := xs.filter (fun x => Q x.1)
theorem by_app (Q : Nat → Bool) (xs ys : List (Nat × Int)) : by_ Q (xs ++ ys) = by_ Q xs ++ by_ Q ys := List.filter_append _ _
theorem by_nil {Q : Nat → Bool} {xs : List (Nat × Int)} (h : ∀ x ∈ xs, Q x.1 = false) : by_ Q xs = [] := List.filter_eq_nil_iff.2 (fun x hx => by simp [h x hx])
theorem by_all {Q : Nat → Bool} {xs : List (Nat × Int)} (h : ∀ x ∈ xs, Q x.1 = true) : by_ Q xs = xs := List.filter_eq_self.2 h
theorem by_mid {Q : Nat → Bool} {xs ys : List (Nat × Int)} {a b : Nat} (hs : Srt xs) (hab : a ≤ b) (h : ∀ p, a ≤ p → p ≤ b → Q p = false) (hy : ∀ y ∈ ys, Q y.1 = false) : by_ Q (lo xs a ++ ys ++ hi xs b) = by_ Q xs := by
 have h1 : by_ Q (mid xs a b) = [] := by_nil (fun x hx => h _ (mid_mem.1 hx).2.1 (mid_mem.1 hx).2.2)
 rw [by_app, by_app, by_nil hy]
 conv => rhs; rw [parts xs hs a b hab, by_app, by_app, h1]
theorem by_cut {Q : Nat → Bool} {xs : List (Nat × Int)} {a b : Nat} (hs : Srt xs) (hab : a ≤ b) (h : ∀ p, a ≤ p → p ≤ b → Q p = false) : by_ Q (lo xs a ++ hi xs b) = by_ Q xs := by
 have := by_mid (ys := []) hs hab h (fun y hy => by simp at hy)
 simpa using this
theorem msF_by {Q : Nat → Bool} {ps : List (Nat × Int)} {bs : Nat} : ∀ (ks : List K4) (ms : List (Nat × Int)), Srt ms → (∀ k ∈ ks, usedN ps k.val = false → Q (hp bs k.val) = false) → by_ Q (msF ps bs ms ks) = by_ Q ms
 | [], ms, _, _ => rfl
 | k :: ks, ms, hs, h => by
  have ih := msF_by ks (stepB ps bs ms k) (stepB_mono k hs).1 (fun k' hk' => h k' (List.mem_cons_of_mem _ hk'))
  refine (show by_ Q (msF ps bs ms (k :: ks)) = by_ Q (msF ps bs (stepB ps bs ms k) ks) from rfl).trans (ih.trans ?_)
  unfold stepB
  split
  ·rfl
  ·rename_i hu
   have hq := h k (List.mem_cons_self ..) (by simpa using hu)
   refine by_mid hs (by omega) (fun p h1 h2 => ?_) (fun y hy => ?_)
   ·obtain rfl : p = hp bs k.val := by omega
    exact hq
   ·obtain ⟨i, hi, rfl⟩ := added_mem.1 hy
    obtain rfl : i = 0 := by omega
    simpa using hq
theorem cut_srt {xs : List (Nat × Int)} (h : Srt xs) (a b : Nat) (hab : a ≤ b) : Srt (lo xs a ++ hi xs b) := srt_join (lo_srt h a) (hi_srt h b) (fun x hx y hy => by have := (lo_mem.1 hx).2; have := (hi_mem.1 hy).2; omega)
theorem stepR_srt {ps : List (Nat × Int)} {bs : Nat} {h : List (Nat × Int) × List (Nat × Int)} (k : K4) (h1 : Srt h.1) (h2 : Srt h.2) : Srt (stepR ps bs h k).1 ∧ Srt (stepR ps bs h k).2 := by
 unfold stepR
 split
 ·exact ⟨h1, h2⟩
 ·exact ⟨cut_srt h1 _ _ (by omega), cut_srt h2 _ _ (by omega)⟩
theorem rF_by {Q Q' : Nat → Bool} {ps : List (Nat × Int)} {bs : Nat} : ∀ (ks : List K4) (h : List (Nat × Int) × List (Nat × Int)), Srt h.1 → Srt h.2 → (∀ k ∈ ks, usedN ps k.val = false → Q (hp bs k.val) = false) → (∀ k ∈ ks, usedN ps k.val = false → ∀ p, p / 16384 = hp bs k.val → Q' p = false) →
  by_ Q (rF ps bs h ks).1 = by_ Q h.1 ∧ by_ Q' (rF ps bs h ks).2 = by_ Q' h.2
 | [], h, _, _, _, _ => ⟨rfl, rfl⟩
 | k :: ks, h, h1, h2, hq, hq' => by
  have ih := rF_by (Q := Q) (Q' := Q') ks (stepR ps bs h k) (stepR_srt k h1 h2).1 (stepR_srt k h1 h2).2 (fun k' hk' => hq k' (List.mem_cons_of_mem _ hk')) (fun k' hk' => hq' k' (List.mem_cons_of_mem _ hk'))
  have e : rF ps bs h (k :: ks) = rF ps bs (stepR ps bs h k) ks := rfl
  rw [e, ih.1, ih.2]
  unfold stepR
  split
  ·exact ⟨rfl, rfl⟩
  ·rename_i hu
   have q := hq k (List.mem_cons_self ..) (by simpa using hu)
   have q' := hq' k (List.mem_cons_self ..) (by simpa using hu)
   exact ⟨by_cut h1 (by omega) (fun p h1 h2 => by rw [show p = hp bs k.val from (by omega)]; exact q), by_cut h2 (by omega) (fun p h1 h2 => q' p (by omega))⟩
theorem stepR_mem {ps : List (Nat × Int)} {bs : Nat} {h : List (Nat × Int) × List (Nat × Int)} {k : K4} : (∀ x ∈ (stepR ps bs h k).1, x ∈ h.1 ∧ (usedN ps k.val = false → x.1 ≠ hp bs k.val)) ∧ (∀ x ∈ (stepR ps bs h k).2, x ∈ h.2) := by
 unfold stepR
 split
 ·rename_i hu
  exact ⟨fun x hx => ⟨hx, fun h => by rw [h] at hu; cases hu⟩, fun x hx => hx⟩
 ·refine ⟨fun x hx => ?_, fun x hx => ?_⟩
  ·rcases List.mem_append.1 hx with g | g
   ·exact ⟨(lo_mem.1 g).1, fun _ => by have := (lo_mem.1 g).2; omega⟩
   ·exact ⟨(hi_mem.1 g).1, fun _ => by have := (hi_mem.1 g).2; omega⟩
  ·rcases List.mem_append.1 hx with g | g
   ·exact (lo_mem.1 g).1
   ·exact (hi_mem.1 g).1
theorem rF_mem {ps : List (Nat × Int)} {bs : Nat} : ∀ (ks : List K4) (h : List (Nat × Int) × List (Nat × Int)), (∀ x ∈ (rF ps bs h ks).1, x ∈ h.1 ∧ ∀ k ∈ ks, usedN ps k.val = false → x.1 ≠ hp bs k.val) ∧ (∀ x ∈ (rF ps bs h ks).2, x ∈ h.2)
 | [], h => ⟨fun x hx => ⟨hx, fun k hk => by simp at hk⟩, fun x hx => hx⟩
 | k :: ks, h => by
  have ih := rF_mem (ps := ps) (bs := bs) ks (stepR ps bs h k)
  refine ⟨fun x hx => ?_, fun x hx => stepR_mem.2 x (ih.2 x hx)⟩
  obtain ⟨a, b⟩ := ih.1 x hx
  obtain ⟨c, d⟩ := stepR_mem.1 x a
  refine ⟨c, fun k' hk' => ?_⟩
  rcases List.mem_cons.1 hk' with rfl | hk'
  ·exact d
  ·exact b k' hk'
theorem FitG.reach {ms cs ps : List (Nat × Int)} {bs : Nat} (h : FitG ms cs ps bs) : Reach ps bs ms := fun x hx h1 h2 => by
 have hal := h.al
 obtain ⟨_, hu⟩ := h.rm x hx (by simp [inB]; omega)
 rw [List.any_eq_true] at hu
 obtain ⟨y, hy, e⟩ := hu
 rw [usedN, List.any_eq_true]
 refine ⟨y, hy, ?_⟩
 simp [hp] at e ⊢
 omega
theorem msI_all {ps ms cs qs : List (Nat × Int)} {bs : Nat} (hr : Reach ps bs ms) (hb : bs ≤ 4611686018427387904) (hf : FitQ ms cs) (hs : Srt qs) (hq : ∀ x ∈ qs, x.1 < 1048576) (hroom : (msF ps bs ms (ksM qs qs.length)).length ≤ 64) :
  ∀ (m : Nat) (pre suf : List K4), pre.length = m → pre ++ suf = ksM qs qs.length → MsI ps bs ms cs pre
 | 0, pre, suf, hm, _ => by
  obtain rfl : pre = [] := List.length_eq_zero_iff.1 hm
  exact msI_nil hf
 | m + 1, pre, suf, hm, e => by
  obtain ⟨init, k, rfl⟩ : ∃ init k, pre = init ++ [k] := ⟨pre.dropLast, pre.getLast (by intro h; rw [h] at hm; simp at hm), (List.dropLast_concat_getLast _).symm⟩
  have ih := msI_all hr hb hf hs hq hroom m init ([k] ++ suf) (by simpa using hm) (by simpa using e)
  cases hu : usedN ps k.val with
  | true => exact (msI_used ih hu).1
  | false =>
   have hno : k ∉ init := ksM_nodup hs hq ⟨suf, e⟩
   have hmid := msI_free hr ih hu hno
   refine (msI_new hb ih hu hmid ?_).1
   have h1 := (stepB_len (ps := ps) (bs := bs) (ms := msF ps bs ms init) k (fun _ => hmid) ih.1.2.2.1).2 hu
   have h2 := msF_mono (ps := ps) (bs := bs) suf (stepB ps bs (msF ps bs ms init) k) (stepB_mono k ih.1.2.2.1).1
   have h3 : msF ps bs ms (ksM qs qs.length) = msF ps bs (stepB ps bs (msF ps bs ms init) k) suf := by rw [← e, msF_app, msF_snoc]
   rw [h3] at hroom
   omega
theorem fit_maps {ps ms cs : List (Nat × Int)} {bs first n : Nat} {prot : Int} (hr : Reach ps bs ms) (hb : bs ≤ 4611686018427387904) (hf : FitQ ms cs) (hn : first + n ≤ 1048576) (hroom : (msF ps bs ms (ksM (added first prot n) n)).length ≤ 64) : FitQ (msF ps bs ms (ksM (added first prot n) n)) cs := by
 have l : (added first prot n).length = n := added_len ..
 have := msI_all (qs := added first prot n) hr hb hf (added_srt _ _ _) (added_bound hn) (by rw [l]; exact hroom) _ (ksM (added first prot n) (added first prot n).length) [] rfl (by simp)
 rw [l] at this
 exact this.1
end Go.Proofs.YtkpmkgkfpikpfaaGreat
