/- What is proved here: plain words for GmapFresh and GmapRights. -/
import Derived.Test.YtkpmkgkfpikpfaaGreatStj
namespace Go.Proofs.YtkpmkgkfpikpfaaGreat
open Go.RowKit
set_option linter.unusedVariables false
set_option linter.unusedSimpArgs false
set_option maxRecDepth 100000
theorem mapR_no {ms cs ps : List (Nat × Int)} {bs first n : Nat} {prot : Int} (h : (mapR ms cs ps bs first n prot).1 ≠ 0) : mapR ms cs ps bs first n prot = ((mapR ms cs ps bs first n prot).1, ms, cs, ps) := by
  revert h
  unfold mapR
  split
  · intro _; rfl
  split
  · intro _; rfl
  split
  · intro h; exact absurd rfl h
  · intro _; rfl
theorem mapR_yes {ms cs ps : List (Nat × Int)} {bs first n : Nat} {prot : Int} (h : (mapR ms cs ps bs first n prot).1 = 0) : (mapR ms cs ps bs first n prot).2.2.2 = lo ps first ++ added first prot n ++ hi ps (first + n - 1) ∧ protOk prot = true := by
  revert h
  unfold mapR
  split
  · intro h; simp at h
  rename_i hg
  split
  · intro h; simp at h
  split
  · intro _
    refine ⟨rfl, ?_⟩
    simp at hg
    exact hg.2
  · intro h; simp at h
theorem mm_no {ms cs ps : List (Nat × Int)} {bs st en a n : Nat} {prot : Int} {fixed : Bool} {R : GRes} {at_ : Nat} (h : MmIs ms cs ps bs st en a n prot fixed R at_) (h0 : R.1 ≠ 0) : R = (R.1, ms, cs, ps) ∧ at_ = 0 := by
  rcases h with ⟨_, rfl, e⟩ | ⟨_, f, err, _, ⟨he, rfl, e⟩ | ⟨rfl, hR, e⟩⟩
  · exact ⟨rfl, e⟩
  · exact ⟨rfl, e⟩
  · rw [if_neg h0] at e
    refine ⟨?_, e⟩
    rw [hR] at h0 ⊢
    exact mapR_no h0
theorem mm_yes {ms cs ps : List (Nat × Int)} {bs st en a n : Nat} {prot : Int} {R : GRes} {at_ : Nat} (hf : FitG ms cs ps bs) (h : MmIs ms cs ps bs st en a n prot false R at_) (h0 : R.1 = 0) :
    ∃ f : Nat, at_ = f * 4096 ∧ 0 < f ∧ f + pgN n ≤ 458752 ∧ 0 < pgN n ∧ R.2.2.2.length = ps.length + pgN n ∧ (∀ i : Nat, i < pgN n → protN ps (f + i) = -1 ∧ protN R.2.2.2 (f + i) = prot) ∧ (∀ x ∈ ps, protN R.2.2.2 x.1 = x.2) := by
  rcases h with ⟨_, rfl, _⟩ | ⟨hb, f, err, hfp, ⟨he, rfl, _⟩ | ⟨rfl, hR, hat⟩⟩
  · simp at h0
  · exact absurd h0 he
  have hn : n ≠ 0 := fun e => hb (.inl e)
  have hpn : 0 < pgN n := by unfold pgN; omega
  rw [h0, if_pos rfl] at hat
  have key : 0 < f ∧ f + pgN n ≤ 458752 ∧ ∀ x ∈ ps, x.1 < f ∨ f + pgN n ≤ x.1 := by
    rcases hfp with ⟨_, _, he⟩ | ⟨_, ⟨hc, _⟩ | ⟨_, ha, hm, hl, hs⟩, rfl, _⟩ | ⟨_, _, _, ts, hp, hr, hF, he⟩
    · simp at he
    · simp at hc
    · exact ⟨by omega, hl, someB_free hs⟩
    · cases hs : frR (pgN n) (bwT ts ts.length) 458752 with
      | none => rw [hs] at he; simp at he
      | some g =>
      rw [hs] at hF
      obtain rfl : f = g := by simpa using hF
      obtain ⟨g1, g2, g3, _⟩ := fr_free hp hr hpn hs
      exact ⟨g1, g2, g3⟩
  obtain ⟨g1, g2, g3⟩ := key
  rw [hR] at h0
  have hm : mid ps f (f + pgN n - 1) = [] := mid_nil (fun x h => by have := g3 x h; omega)
  obtain ⟨hL, _⟩ := mapR_yes h0
  refine ⟨f, hat, g1, g2, hpn, ?_, fun i hi => ⟨?_, ?_⟩, fun x hx => ?_⟩
  · rw [hR, hL, new_len hf.sp (by omega), hm]; rfl
  · exact protN_none' (fun x hx e => by have := g3 x hx; omega)
  · rw [hR, hL]
    exact prot_map_in hf.sp rfl (by omega) (by omega) (by omega)
  · rw [hR, hL, prot_map_out hf.sp rfl (by omega) (g3 x hx)]
    exact protN_in hf.sp hx
end Go.Proofs.YtkpmkgkfpikpfaaGreat
