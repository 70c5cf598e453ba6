/- What is proved here: the header of a file, and what may be done by flags, are the document's: the walk of ElfReads. -/
import Derived.Test.YthhallhmolgpbaaAw
import Derived.Test.YthhallhmolgpbaaDp
namespace Go.Proofs.Ythhallhmolgpbaa
open Go.RowKit
set_option linter.unusedVariables false
set_option linter.unusedSimpArgs false
set_option maxRecDepth 100000
/-- What the document's Parse tells, as a variable that is stored. -/
theorem rpar_at (l : L8) (hl : l.length ≤ 1000000) (w : World) : Calls Try.prog 9 #[.string ⟨l.toArray⟩] w fun e w' => (∃ ao c, e = .returned (.tuple #[.agg #[.bool (parF l).shared, .int .u32 ((parF l).entry : Int), .slice ao (parF l).segs.length c], .int .i64 (parE l : Int)]) ∧ SlG w' (.slice ao (parF l).segs.length c) (parF l).segs) ∧ Below w.heap.size w w' := by
  refine (rparse9 l hl w).mono ?_
  rintro e w' ⟨⟨v, rfl, h1⟩, h2⟩
  obtain ⟨ao, c, rfl⟩ := h1.shape
  exact ⟨⟨ao, c, rfl, h1.sl⟩, h2⟩
theorem parF_len (l : L8) : (parF l).segs.length ≤ 1000000 := by
  unfold parF
  split
  · show (segsAt l (hf l 44)).length ≤ _
    have := hf_lt l 44
    rw [segsAt_len]; omega
  · show 0 ≤ _
    omega
set_option maxHeartbeats 4000000 in
theorem reads_walk (l : L8) (fl : Nat) (hfl : fl < 4294967296) (w : World) :
    Calls Try.prog 3 #[.string ⟨l.toArray⟩, .int .u32 (fl : Int)] w fun e w' => e = .returned (.bool true) ∧ Below w.heap.size w w' := by
  obtain ⟨S, hS⟩ : ∃ S : ByteArray, S = ⟨l.toArray⟩ := ⟨_, rfl⟩
  have hSz : S.size = l.length := by rw [← bt_len, hS, bal]
  have KA : Hid (∀ w', Calls Try.prog 7 #[] w' fun e w'' => e = .returned (.bool true) ∧ Below w'.heap.size w' w'') := awake7
  rw [← hS]
  by_cases h1 : 20000 < l.length
  · have i1 : (20000 : Int) < (S.size : Int) := by omega
    clear hS hSz h1 hfl
    go_enter Try.func3, Try.ntmps3
    go_wp2_with fail
    refine (KA.out w).mono ?_
    rintro e w1 ⟨rfl, hb1⟩
    go_wp2
    go_ret
    exact ⟨rfl, hb1⟩
  have i1 : ¬ (20000 : Int) < (S.size : Int) := by omega
  have K1 := par_at l (by omega) w
  have K2 : Hid (∀ w', Calls Try.prog 9 #[.string S] w' fun e w'' => (∃ ao c, e = .returned (.tuple #[.agg #[.bool (parF l).shared, .int .u32 ((parF l).entry : Int), .slice ao (parF l).segs.length c], .int .i64 (parE l : Int)]) ∧ SlG w'' (.slice ao (parF l).segs.length c) (parF l).segs) ∧ Below w'.heap.size w' w'') := fun w' => by rw [hS]; exact rpar_at l (by omega) w'
  rw [← hS] at K1
  have KS : Hid (∀ w' v v', SlG w' v (parF l).segs → SlG w' v' (parF l).segs → Calls Try.prog 10 #[.agg #[.bool (parF l).shared, .int .u32 ((parF l).entry : Int), v], .agg #[.bool (parF l).shared, .int .u32 ((parF l).entry : Int), v']] w' fun e w'' => e = .returned (.bool true) ∧ Below w'.heap.size w' w'') := fun w' v v' h h' => by
    have := rsame10 (parF l) (parF l) v v' w' h h' (parF_len l)
    rw [(sameE_iff _ _).2 rfl] at this
    exact this
  have K11 : Hid (∀ w', Calls Try.prog 11 #[.int .u32 (fl : Int)] w' fun e w'' => e = .returned (.int .i64 (protN fl : Int)) ∧ w'' = w') := fun w' => prots11 fl hfl w'
  have K12 : Hid (∀ w', Calls Try.prog 12 #[.int .u32 (fl : Int)] w' fun e w'' => e = .returned (.int .i64 (protN fl : Int)) ∧ w'' = w') := fun w' => rprots12 fl hfl w'
  obtain ⟨EE, hEE⟩ : ∃ e : Int, e = (parE l : Int) := ⟨_, rfl⟩
  obtain ⟨PP, hPP⟩ : ∃ e : Int, e = (protN fl : Int) := ⟨_, rfl⟩
  rw [← hEE] at K1 K2
  rw [← hPP] at K11 K12
  have bE : (EE == EE) = true := beq_self_eq_true _
  have bP : (PP == PP) = true := beq_self_eq_true _
  obtain ⟨F, hF⟩ : ∃ F, F = parF l := ⟨_, rfl⟩
  rw [← hF] at K1 K2 KS
  clear hS hSz h1 hfl hEE hPP hF
  go_enter Try.func3, Try.ntmps3
  go_wp2_with fail
  refine K1.mono ?_
  rintro e x1 ⟨⟨ao, c, rfl, hs1⟩, hb1⟩
  obtain ⟨V2, W2, hV2, hW2, ⟨q0, q1, q2⟩, ⟨f0, f1, f2⟩, e2, hb2, hz2⟩ := new3 x1 (.bool F.shared) (.int .u32 (F.entry : Int)) (.slice ao F.segs.length c)
  have H2 : Hid (Below w.heap.size w W2 ∧ B3 (.bool F.shared) (.int .u32 (F.entry : Int)) (.slice ao F.segs.length c) x1.heap.size W2 ∧ SlG W2 (.slice ao F.segs.length c) F.segs) := ⟨below_tr hb1 hb2, e2, hs1.keep hb2⟩
  clear K1 hs1 hb1 hb2 e2 hz2
  go_wp2_with fail
  refine (K2.out W2).mono ?_
  rintro e x3 ⟨⟨ao', c', rfl, hs3⟩, hb3⟩
  clear q0 q1 q2 f0 f1 f2 hV2 hW2
  obtain ⟨V4, W4, hV4, hW4, ⟨q0, q1, q2⟩, ⟨f0, f1, f2⟩, e4, hb4, hz4⟩ := new3 x3 (.bool F.shared) (.int .u32 (F.entry : Int)) (.slice ao' F.segs.length c')
  have H4 : Hid (Below w.heap.size w W4 ∧ B3 (.bool F.shared) (.int .u32 (F.entry : Int)) (.slice ao F.segs.length c) x1.heap.size W4 ∧ SlG W4 (.slice ao F.segs.length c) F.segs ∧ B3 (.bool F.shared) (.int .u32 (F.entry : Int)) (.slice ao' F.segs.length c') x3.heap.size W4 ∧ SlG W4 (.slice ao' F.segs.length c') F.segs) := ⟨below_tr (below_tr H2.out.1 hb3) hb4, (H2.out.2.1.keep hb3).keep hb4, (H2.out.2.2.keep hb3).keep hb4, e4, hs3.keep hb4⟩
  obtain ⟨p0, p1, p2⟩ := H4.out.2.1.cells
  obtain ⟨r0, r1, r2⟩ := H4.out.2.2.2.1.cells
  clear hs3 hb3 hb4 e4 hz4 H2
  go_wp2_with fail
  refine (KS.out W4 _ _ H4.out.2.2.1 H4.out.2.2.2.2).mono ?_
  rintro e x5 ⟨rfl, hb5⟩
  clear q0 q1 q2 f0 f1 f2 hV4 hW4 p0 p1 p2 r0 r1 r2
  go_wp2_with fail
  refine (K11.out x5).mono ?_
  rintro e x6 ⟨rfl, rfl⟩
  go_wp2_with fail
  refine (K12.out x6).mono ?_
  rintro e x7 ⟨rfl, rfl⟩
  go_wp2_with fail
  refine (KA.out x7).mono ?_
  rintro e x8 ⟨rfl, hb8⟩
  go_wp2
  go_ret
  exact ⟨rfl, below_tr (below_tr H4.out.1 hb5) hb8⟩
end Go.Proofs.Ythhallhmolgpbaa
