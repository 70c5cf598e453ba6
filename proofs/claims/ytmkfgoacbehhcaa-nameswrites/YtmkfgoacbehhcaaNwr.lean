/- What is proved here: which symbols can be, and their table: the program's and the document's. -/
import Derived.Test.YtmkfgoacbehhcaaNa19
import Derived.Test.YtmkfgoacbehhcaaNs
namespace Go.Proofs.Ytmkfgoacbehhcaa
open Go.RowKit
set_option linter.unusedVariables false
set_option linter.unusedSimpArgs false
set_option maxRecDepth 100000
attribute [local go_sem] Oper.semAt_some
set_option maxHeartbeats 4000000 in
theorem writes_walk (gs : List Sy) (v : Value) (ways : Int) (w : World) (hs : SlY w v gs) (hb : ∀ g ∈ gs, g.Bd) :
    Calls Try.prog 4 #[v, .int .i64 ways] w fun e w' => e = .returned (.bool true) ∧ Below w.heap.size w w' := by
  have KA : Hid (∀ w', Calls Try.prog 8 #[] w' fun e w'' => e = .returned (.bool true) ∧ Below w'.heap.size w' w'') := awake8
  have HS : Hid (∀ w', Below w.heap.size w w' → SlY w' v gs) := fun w' h => hs.keep h
  have HBD : Hid (∀ s ∈ gs, s.Bd) := hb
  obtain ⟨ao, cap, hve, h1v, h2v, h3v, h4v⟩ := id hs
  subst hve
  by_cases h1 : 230 < gs.length
  · have i1 : (230 : Int) < (gs.length : Int) := by omega
    have d1 := decide_eq_true i1
    clear h1 hb h1v h2v h3v h4v hs
    go_enter Try.func4, Try.ntmps4
    go_wp2_with fail
    refine (KA.out w).mono ?_
    rintro e w1 ⟨rfl, hb1⟩
    go_wp2
    go_ret
    exact ⟨rfl, hb1⟩
  have i1 : ¬ (230 : Int) < (gs.length : Int) := by omega
  have d1 := decide_eq_false i1
  have H16 : Hid (∀ w', Below w.heap.size w w' → Calls Try.prog 16 #[.slice ao gs.length cap] w' fun e w'' => e = .returned (.bool (fitL gs)) ∧ Below w'.heap.size w' w'') := fun w' h => fit16 gs _ w' (HS.out w' h) (by omega)
  have H17 : Hid (∀ w', Below w.heap.size w w' → Calls Try.prog 17 #[.slice ao gs.length cap] w' fun e w'' => e = .returned (.bool (fitL gs)) ∧ Below w'.heap.size w' w'') := fun w' h => rfit17 gs _ w' (HS.out w' h)
  have H18 : Hid (∀ w', Below w.heap.size w w' → Calls Try.prog 18 #[.slice ao gs.length cap, .int .i64 ways] w' fun e w'' => e = .returned ((wrT gs ways).val) ∧ Below w'.heap.size w' w'') := fun w' h => write18 gs _ ways w' (HS.out w' h) HBD.out (by omega)
  have H19 : Hid (∀ w', Below w.heap.size w w' → Calls Try.prog 19 #[.slice ao gs.length cap, .int .i64 ways] w' fun e w'' => e = .returned ((wrT gs ways).val) ∧ Below w'.heap.size w' w'') := fun w' h => rwrite19 gs _ ways w' (HS.out w' h) HBD.out
  have HL : Hid (gs.length ≤ 230) := by show _ ≤ _; omega
  generalize fitL gs = FB at H16 H17
  unfold Tb.val at H18 H19
  generalize (⟨(wrT gs ways).syms.toArray⟩ : ByteArray) = SS at H18 H19
  generalize (⟨(wrT gs ways).strs.toArray⟩ : ByteArray) = QS at H18 H19
  generalize (⟨(wrT gs ways).hash.toArray⟩ : ByteArray) = HH at H18 H19
  clear h1 hb h1v h2v h3v h4v hs
  go_enter Try.func4, Try.ntmps4
  go_wp2
  go_loopw [13] (fun x wr => ∃ k : Nat, x = .int .i64 (k : Int) ∧ k ≤ gs.length ∧ Below w.heap.size w wr) (fun x _ => gs.length - (intOf x).toNat)
  case atStart => exact ⟨0, rfl, Nat.zero_le _, Below.refl _ _⟩
  case round =>
    obtain ⟨k, rfl, hk, hbr⟩ := hrel
    have HBR : Hid (Below w.heap.size w wr) := hbr
    have hgl := HL.out
    by_cases hlt : k < gs.length
    · have hsl := HS.out wr hbr
      obtain ⟨ao', cap', he, _, _, _, h4⟩ := hsl
      injection he with he1 he2 he3
      obtain ⟨bb, oo, hbo, h5⟩ := h4 k hlt
      rw [← he1] at hbo
      obtain ⟨g, hg⟩ : ∃ g, g = gs[k] := ⟨_, rfl⟩
      rw [← hg] at h5
      obtain ⟨W7, hW7, hb8, hz7, q0, q1, q2, q3, q4⟩ := box5 wr g
      obtain ⟨r0, r1, r2, r3, r4⟩ := h5
      obtain ⟨GN, hGN⟩ : ∃ z : ByteArray, z = ⟨g.name.toArray⟩ := ⟨_, rfl⟩
      rw [← hGN] at hW7 q0 r0
      have hki : (k : Int) < (gs.length : Int) := by omega
      have HB7 : Hid (Below w.heap.size w W7) := below_tr HBR.out hb8
      subst hbo
      clear hbr h4 he1 he2 he3 hg hb8 hz7 hGN
      by_cases h2 : (100 : Int) < (GN.size : Int)
      · have d2 := decide_eq_true h2
        go_wp2_with fail
        refine (KA.out W7).mono ?_
        rintro e w8 ⟨rfl, hb8⟩
        go_wp2
        go_ret
        exact ⟨rfl, below_tr HB7.out hb8⟩
      · have d2 := decide_eq_false h2
        go_wp2
        go_roundw
        case rel => exact ⟨k + 1, by go_num, by omega, HB7.out⟩
        case measure => simp [intOf]; omega
    · have hki : ¬ (k : Int) < (gs.length : Int) := by omega
      clear hbr
      go_wp2_with fail
      refine (H16.out wr HBR.out).mono ?_
      rintro e w3 ⟨rfl, hb3⟩
      have HB3 : Hid (Below w.heap.size w w3) := below_tr HBR.out hb3
      clear hb3
      go_wp2_with fail
      refine (H17.out w3 HB3.out).mono ?_
      rintro e w4 ⟨rfl, hb4⟩
      have HB4 : Hid (Below w.heap.size w w4) := below_tr HB3.out hb4
      clear hb4
      go_wp2_with fail
      refine (H18.out w4 HB4.out).mono ?_
      rintro e w5 ⟨rfl, hb5⟩
      have HB5 : Hid (Below w.heap.size w w5) := below_tr HB4.out hb5
      clear hb5
      go_wp2_with fail
      refine (H19.out w5 HB5.out).mono ?_
      rintro e w6 ⟨rfl, hb6⟩
      have HB6 : Hid (Below w.heap.size w w6) := below_tr HB5.out hb6
      clear hb6
      go_wp2_with fail
      refine (KA.out w6).mono ?_
      rintro e w7 ⟨rfl, hb7⟩
      go_wp2
      go_ret
      exact ⟨rfl, below_tr HB6.out hb7⟩
end Go.Proofs.Ytmkfgoacbehhcaa
