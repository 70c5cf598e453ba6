/- What is proved here: what a part of a pattern comes to, and an instruction's pattern. -/
import Derived.Test.YtglkkeelocdanaaDoorNe
import Derived.Test.YtglkkeelocdanaaDoorEn
namespace Go.Proofs.YtglkkeelocdanaaDoor
open Go.RowKit
set_option linter.unusedVariables false
set_option linter.unusedSimpArgs false
set_option maxRecDepth 100000
set_option maxHeartbeats 1000000 in
theorem told24 (i : In) (hbd : Bd i) (x : ByteArray) (w : World) (hl : Lw w) : Calls Tryd.prog 18 #[i.val, .string x] w fun e w' => e = .returned (.string ⟨(toldL i x.toList).toArray⟩) ∧ Below w.heap.size w w' := by
  obtain ⟨W, hW, hb, hz, d0, d1, d2, d3, d4, d5⟩ := box6 w (.string i.name) (.int .i64 i.rs) (.int .i64 i.rt) (.int .i64 i.rd) (.int .i64 i.sa) (.int .u32 (i.imm : Int)) 29
  have b1 := hbd.rs; have b2 := hbd.rt; have b3 := hbd.rd; have b4 := hbd.sa; have b5 := hbd.imm
  have hm : i.imm < 4294967296 := by omega
  have HB : Hid (Below w.heap.size w W) := hb
  have HL : Hid (Lw W) := hl.keep hb
  unfold In.val
  clear hb hz hbd hl
  cases h0 : (x.toList == [115]) with
  | true =>
    have g : x.toList = [115] := by simpa using h0
    have e : toldL i x.toList = Lib.itoa i.rs := by unfold toldL; rw [if_pos g]
    rw [e]
    clear g e 
    have K56 : Hid (∀ w', Below W.heap.size W w' → Calls Tryd.prog 41 #[.int .i64 i.rs] w' fun e w'' => e = .returned (.string ⟨(Lib.itoa i.rs).toArray⟩) ∧ Below w'.heap.size w' w'') := fun w' h => itoa56 i.rs (by omega) (by omega) w' (HL.out.keep h)
    clear b1 b2 b3 b4 b5
    generalize Lib.itoa i.rs = R at K56 ⊢
    go_enter Tryd.func18, Tryd.ntmps18
    go_wp2_with fail
    refine (K56.out _ (Below.refl _ _)).mono ?_
    rintro e w2 ⟨rfl, hb2⟩
    go_wp2
    go_ret
    exact ⟨rfl, below_tr HB.out hb2⟩
  | false =>
    cases h1 : (x.toList == [116]) with
    | true =>
      have g0 : x.toList ≠ [115] := by intro h; rw [h] at h0; exact absurd h0 (by decide)
      have g : x.toList = [116] := by simpa using h1
      have e : toldL i x.toList = Lib.itoa i.rt := by unfold toldL; rw [if_neg g0, if_pos g]
      rw [e]
      clear g e g0
      have K56 : Hid (∀ w', Below W.heap.size W w' → Calls Tryd.prog 41 #[.int .i64 i.rt] w' fun e w'' => e = .returned (.string ⟨(Lib.itoa i.rt).toArray⟩) ∧ Below w'.heap.size w' w'') := fun w' h => itoa56 i.rt (by omega) (by omega) w' (HL.out.keep h)
      clear b1 b2 b3 b4 b5
      generalize Lib.itoa i.rt = R at K56 ⊢
      go_enter Tryd.func18, Tryd.ntmps18
      go_wp2_with fail
      refine (K56.out _ (Below.refl _ _)).mono ?_
      rintro e w2 ⟨rfl, hb2⟩
      go_wp2
      go_ret
      exact ⟨rfl, below_tr HB.out hb2⟩
    | false =>
      cases h2 : (x.toList == [100]) with
      | true =>
        have g0 : x.toList ≠ [115] := by intro h; rw [h] at h0; exact absurd h0 (by decide)
        have g1 : x.toList ≠ [116] := by intro h; rw [h] at h1; exact absurd h1 (by decide)
        have g : x.toList = [100] := by simpa using h2
        have e : toldL i x.toList = Lib.itoa i.rd := by unfold toldL; rw [if_neg g0, if_neg g1, if_pos g]
        rw [e]
        clear g e g0 g1
        have K56 : Hid (∀ w', Below W.heap.size W w' → Calls Tryd.prog 41 #[.int .i64 i.rd] w' fun e w'' => e = .returned (.string ⟨(Lib.itoa i.rd).toArray⟩) ∧ Below w'.heap.size w' w'') := fun w' h => itoa56 i.rd (by omega) (by omega) w' (HL.out.keep h)
        clear b1 b2 b3 b4 b5
        generalize Lib.itoa i.rd = R at K56 ⊢
        go_enter Tryd.func18, Tryd.ntmps18
        go_wp2_with fail
        refine (K56.out _ (Below.refl _ _)).mono ?_
        rintro e w2 ⟨rfl, hb2⟩
        go_wp2
        go_ret
        exact ⟨rfl, below_tr HB.out hb2⟩
      | false =>
        cases h3 : (x.toList == [97]) with
        | true =>
          have g0 : x.toList ≠ [115] := by intro h; rw [h] at h0; exact absurd h0 (by decide)
          have g1 : x.toList ≠ [116] := by intro h; rw [h] at h1; exact absurd h1 (by decide)
          have g2 : x.toList ≠ [100] := by intro h; rw [h] at h2; exact absurd h2 (by decide)
          have g : x.toList = [97] := by simpa using h3
          have e : toldL i x.toList = Lib.itoa i.sa := by unfold toldL; rw [if_neg g0, if_neg g1, if_neg g2, if_pos g]
          rw [e]
          clear g e g0 g1 g2
          have K56 : Hid (∀ w', Below W.heap.size W w' → Calls Tryd.prog 41 #[.int .i64 i.sa] w' fun e w'' => e = .returned (.string ⟨(Lib.itoa i.sa).toArray⟩) ∧ Below w'.heap.size w' w'') := fun w' h => itoa56 i.sa (by omega) (by omega) w' (HL.out.keep h)
          clear b1 b2 b3 b4 b5
          generalize Lib.itoa i.sa = R at K56 ⊢
          go_enter Tryd.func18, Tryd.ntmps18
          go_wp2_with fail
          refine (K56.out _ (Below.refl _ _)).mono ?_
          rintro e w2 ⟨rfl, hb2⟩
          go_wp2
          go_ret
          exact ⟨rfl, below_tr HB.out hb2⟩
        | false =>
          cases h4 : (x.toList == [105]) with
          | true =>
            have g0 : x.toList ≠ [115] := by intro h; rw [h] at h0; exact absurd h0 (by decide)
            have g1 : x.toList ≠ [116] := by intro h; rw [h] at h1; exact absurd h1 (by decide)
            have g2 : x.toList ≠ [100] := by intro h; rw [h] at h2; exact absurd h2 (by decide)
            have g3 : x.toList ≠ [97] := by intro h; rw [h] at h3; exact absurd h3 (by decide)
            have g : x.toList = [105] := by simpa using h4
            have e : toldL i x.toList = Lib.itoa (sgn i.imm) := by unfold toldL; rw [if_neg g0, if_neg g1, if_neg g2, if_neg g3, if_pos g]
            rw [e]
            clear g e g0 g1 g2 g3
            have K56 : Hid (∀ w', Below W.heap.size W w' → Calls Tryd.prog 41 #[.int .i64 (sgn i.imm)] w' fun e w'' => e = .returned (.string ⟨(Lib.itoa (sgn i.imm)).toArray⟩) ∧ Below w'.heap.size w' w'') := fun w' h => itoa56 (sgn i.imm) (by unfold sgn; split <;> omega) (by unfold sgn; split <;> omega) w' (HL.out.keep h)
            clear b1 b2 b3 b4 b5
            generalize Lib.itoa (sgn i.imm) = R at K56 ⊢
            have K57 := sext57 i.imm hm W
            have hsx := sgn_w64 i.imm
            have hsy := sx_back i.imm
            generalize sgn i.imm = G at K56 hsx hsy
            generalize sx i.imm = X at K57 hsy
            go_enter Tryd.func18, Tryd.ntmps18
            go_wp2_with fail
            refine K57.mono ?_
            rintro e w1 ⟨rfl, rfl⟩
            clear K57
            go_wp2_with fail
            refine (K56.out _ (Below.refl _ _)).mono ?_
            rintro e w2 ⟨rfl, hb2⟩
            go_wp2
            go_ret
            exact ⟨rfl, below_tr HB.out hb2⟩
          | false =>
            cases h5 : (x.toList == [117]) with
            | true =>
              have g0 : x.toList ≠ [115] := by intro h; rw [h] at h0; exact absurd h0 (by decide)
              have g1 : x.toList ≠ [116] := by intro h; rw [h] at h1; exact absurd h1 (by decide)
              have g2 : x.toList ≠ [100] := by intro h; rw [h] at h2; exact absurd h2 (by decide)
              have g3 : x.toList ≠ [97] := by intro h; rw [h] at h3; exact absurd h3 (by decide)
              have g4 : x.toList ≠ [105] := by intro h; rw [h] at h4; exact absurd h4 (by decide)
              have g : x.toList = [117] := by simpa using h5
              have e : toldL i x.toList = Lib.itoa (i.imm : Int) := by unfold toldL; rw [if_neg g0, if_neg g1, if_neg g2, if_neg g3, if_neg g4, if_pos g]
              rw [e]
              clear g e g0 g1 g2 g3 g4
              have K56 : Hid (∀ w', Below W.heap.size W w' → Calls Tryd.prog 41 #[.int .i64 (i.imm : Int)] w' fun e w'' => e = .returned (.string ⟨(Lib.itoa (i.imm : Int)).toArray⟩) ∧ Below w'.heap.size w' w'') := fun w' h => itoa56 (i.imm : Int) (by omega) (by omega) w' (HL.out.keep h)
              clear b1 b2 b3 b4 b5
              generalize Lib.itoa (i.imm : Int) = R at K56 ⊢
              go_enter Tryd.func18, Tryd.ntmps18
              go_wp2_with fail
              refine (K56.out _ (Below.refl _ _)).mono ?_
              rintro e w2 ⟨rfl, hb2⟩
              go_wp2
              go_ret
              exact ⟨rfl, below_tr HB.out hb2⟩
            | false =>
              have g0 : x.toList ≠ [115] := by intro h; rw [h] at h0; exact absurd h0 (by decide)
              have g1 : x.toList ≠ [116] := by intro h; rw [h] at h1; exact absurd h1 (by decide)
              have g2 : x.toList ≠ [100] := by intro h; rw [h] at h2; exact absurd h2 (by decide)
              have g3 : x.toList ≠ [97] := by intro h; rw [h] at h3; exact absurd h3 (by decide)
              have g4 : x.toList ≠ [105] := by intro h; rw [h] at h4; exact absurd h4 (by decide)
              have g5 : x.toList ≠ [117] := by intro h; rw [h] at h5; exact absurd h5 (by decide)
              have e : (⟨(toldL i x.toList).toArray⟩ : ByteArray) = x := by unfold toldL; rw [if_neg g0, if_neg g1, if_neg g2, if_neg g3, if_neg g4, if_neg g5]; exact ba_list x
              rw [e]
              clear g0 g1 g2 g3 g4 g5 e
              go_enter Tryd.func18, Tryd.ntmps18
              go_wp2
              go_ret
              exact ⟨rfl, HB.out⟩
set_option maxHeartbeats 4000000 in
theorem pattern23 (n : ByteArray) (bare : Bool) (w : World) : Calls Tryd.prog 17 #[.string n, .bool bare] w fun e w' => e = .returned (.string ⟨(patL n.toList (formL8 n) bare).toArray⟩) ∧ Below w.heap.size w w' := by
  have K55 := form13 n w
  unfold formL8
  generalize (foundR (nameB n)).form = F at K55 ⊢
  cases n1 : (n.toList == [97, 110, 100, 105]) with
  | true =>
    go_enter Tryd.func17, Tryd.ntmps17
    go_wp2
    go_ret
    exact ⟨by unfold patL; simp only [n1, Bool.true_or, if_true]; rfl, Below.refl _ _⟩
  | false =>
  cases n2 : (n.toList == [111, 114, 105]) with
  | true =>
    go_enter Tryd.func17, Tryd.ntmps17
    go_wp2
    go_ret
    exact ⟨by unfold patL; simp only [n1, n2, Bool.true_or, Bool.false_or, if_true]; rfl, Below.refl _ _⟩
  | false =>
  cases n3 : (n.toList == [120, 111, 114, 105]) with
  | true =>
    go_enter Tryd.func17, Tryd.ntmps17
    go_wp2
    go_ret
    exact ⟨by unfold patL; simp only [n1, n2, n3, Bool.false_or, if_true]; rfl, Below.refl _ _⟩
  | false =>
  have hn : (n.toList == [97, 110, 100, 105] || (n.toList == [111, 114, 105] || n.toList == [120, 111, 114, 105])) = false := by rw [n1, n2, n3]; rfl
  cases h0 : (F.toList == [100, 115, 116]) with
  | true =>
    go_enter Tryd.func17, Tryd.ntmps17
    go_wp2_with fail
    refine K55.mono ?_
    rintro e w1 ⟨rfl, hb1⟩
    clear K55
    have HB1 : Hid (Below w.heap.size w w1) := hb1
    clear hb1
    go_wp2
    go_ret
    exact ⟨by unfold patL; simp only [hn, h0, if_true, if_false, Bool.false_eq_true]; rfl, HB1.out⟩
  | false =>
    cases h1 : (F.toList == [100, 116, 97]) with
    | true =>
      go_enter Tryd.func17, Tryd.ntmps17
      go_wp2_with fail
      refine K55.mono ?_
      rintro e w1 ⟨rfl, hb1⟩
      clear K55
      have HB1 : Hid (Below w.heap.size w w1) := hb1
      clear hb1
      go_wp2
      go_ret
      exact ⟨by unfold patL; simp only [hn, h0, h1, if_true, if_false, Bool.false_eq_true]; rfl, HB1.out⟩
    | false =>
      cases h2 : (F.toList == [100, 116, 114]) with
      | true =>
        go_enter Tryd.func17, Tryd.ntmps17
        go_wp2_with fail
        refine K55.mono ?_
        rintro e w1 ⟨rfl, hb1⟩
        clear K55
        have HB1 : Hid (Below w.heap.size w w1) := hb1
        clear hb1
        go_wp2
        go_ret
        exact ⟨by unfold patL; simp only [hn, h0, h1, h2, if_true, if_false, Bool.false_eq_true]; rfl, HB1.out⟩
      | false =>
        cases h3 : (F.toList == [100, 116, 115]) with
        | true =>
          go_enter Tryd.func17, Tryd.ntmps17
          go_wp2_with fail
          refine K55.mono ?_
          rintro e w1 ⟨rfl, hb1⟩
          clear K55
          have HB1 : Hid (Below w.heap.size w w1) := hb1
          clear hb1
          go_wp2
          go_ret
          exact ⟨by unfold patL; simp only [hn, h0, h1, h2, h3, if_true, if_false, Bool.false_eq_true]; rfl, HB1.out⟩
        | false =>
          cases h4 : (F.toList == [100, 116, 118]) with
          | true =>
            go_enter Tryd.func17, Tryd.ntmps17
            go_wp2_with fail
            refine K55.mono ?_
            rintro e w1 ⟨rfl, hb1⟩
            clear K55
            have HB1 : Hid (Below w.heap.size w w1) := hb1
            clear hb1
            go_wp2
            go_ret
            exact ⟨by unfold patL; simp only [hn, h0, h1, h2, h3, h4, if_true, if_false, Bool.false_eq_true]; rfl, HB1.out⟩
          | false =>
            cases h5 : (F.toList == [100, 115]) with
            | true =>
              go_enter Tryd.func17, Tryd.ntmps17
              go_wp2_with fail
              refine K55.mono ?_
              rintro e w1 ⟨rfl, hb1⟩
              clear K55
              have HB1 : Hid (Below w.heap.size w w1) := hb1
              clear hb1
              go_wp2
              go_ret
              exact ⟨by unfold patL; simp only [hn, h0, h1, h2, h3, h4, h5, if_true, if_false, Bool.false_eq_true]; rfl, HB1.out⟩
            | false =>
              cases h6 : (F.toList == [100, 115, 100]) with
              | true =>
                go_enter Tryd.func17, Tryd.ntmps17
                go_wp2_with fail
                refine K55.mono ?_
                rintro e w1 ⟨rfl, hb1⟩
                clear K55
                have HB1 : Hid (Below w.heap.size w w1) := hb1
                clear hb1
                go_wp2
                go_ret
                exact ⟨by unfold patL; simp only [hn, h0, h1, h2, h3, h4, h5, h6, if_true, if_false, Bool.false_eq_true]; rfl, HB1.out⟩
              | false =>
                cases h7 : (F.toList == [100, 116]) with
                | true =>
                  go_enter Tryd.func17, Tryd.ntmps17
                  go_wp2_with fail
                  refine K55.mono ?_
                  rintro e w1 ⟨rfl, hb1⟩
                  clear K55
                  have HB1 : Hid (Below w.heap.size w w1) := hb1
                  clear hb1
                  go_wp2
                  go_ret
                  exact ⟨by unfold patL; simp only [hn, h0, h1, h2, h3, h4, h5, h6, h7, if_true, if_false, Bool.false_eq_true]; rfl, HB1.out⟩
                | false =>
                  cases h8 : (F.toList == [116, 100]) with
                  | true =>
                    go_enter Tryd.func17, Tryd.ntmps17
                    go_wp2_with fail
                    refine K55.mono ?_
                    rintro e w1 ⟨rfl, hb1⟩
                    clear K55
                    have HB1 : Hid (Below w.heap.size w w1) := hb1
                    clear hb1
                    go_wp2
                    go_ret
                    exact ⟨by unfold patL; simp only [hn, h0, h1, h2, h3, h4, h5, h6, h7, h8, if_true, if_false, Bool.false_eq_true]; rfl, HB1.out⟩
                  | false =>
                    cases h9 : (F.toList == [100]) with
                    | true =>
                      go_enter Tryd.func17, Tryd.ntmps17
                      go_wp2_with fail
                      refine K55.mono ?_
                      rintro e w1 ⟨rfl, hb1⟩
                      clear K55
                      have HB1 : Hid (Below w.heap.size w w1) := hb1
                      clear hb1
                      go_wp2
                      go_ret
                      exact ⟨by unfold patL; simp only [hn, h0, h1, h2, h3, h4, h5, h6, h7, h8, h9, if_true, if_false, Bool.false_eq_true]; rfl, HB1.out⟩
                    | false =>
                      cases h10 : (F.toList == [115]) with
                      | true =>
                        go_enter Tryd.func17, Tryd.ntmps17
                        go_wp2_with fail
                        refine K55.mono ?_
                        rintro e w1 ⟨rfl, hb1⟩
                        clear K55
                        have HB1 : Hid (Below w.heap.size w w1) := hb1
                        clear hb1
                        go_wp2
                        go_ret
                        exact ⟨by unfold patL; simp only [hn, h0, h1, h2, h3, h4, h5, h6, h7, h8, h9, h10, if_true, if_false, Bool.false_eq_true]; rfl, HB1.out⟩
                      | false =>
                        cases h11 : (F.toList == [115, 116]) with
                        | true =>
                          go_enter Tryd.func17, Tryd.ntmps17
                          go_wp2_with fail
                          refine K55.mono ?_
                          rintro e w1 ⟨rfl, hb1⟩
                          clear K55
                          have HB1 : Hid (Below w.heap.size w w1) := hb1
                          clear hb1
                          go_wp2
                          go_ret
                          exact ⟨by unfold patL; simp only [hn, h0, h1, h2, h3, h4, h5, h6, h7, h8, h9, h10, h11, if_true, if_false, Bool.false_eq_true]; rfl, HB1.out⟩
                        | false =>
                          cases h12 : (F.toList == [99]) with
                          | true =>
                            cases bare with
                            | true =>
                              go_enter Tryd.func17, Tryd.ntmps17
                              go_wp2_with fail
                              refine K55.mono ?_
                              rintro e w1 ⟨rfl, hb1⟩
                              clear K55
                              have HB1 : Hid (Below w.heap.size w w1) := hb1
                              clear hb1
                              go_wp2
                              go_ret
                              exact ⟨by unfold patL; simp only [hn, h0, h1, h2, h3, h4, h5, h6, h7, h8, h9, h10, h11, h12, if_true, if_false, Bool.false_eq_true]; rfl, HB1.out⟩
                            | false =>
                              go_enter Tryd.func17, Tryd.ntmps17
                              go_wp2_with fail
                              refine K55.mono ?_
                              rintro e w1 ⟨rfl, hb1⟩
                              clear K55
                              have HB1 : Hid (Below w.heap.size w w1) := hb1
                              clear hb1
                              go_wp2
                              go_ret
                              exact ⟨by unfold patL; simp only [hn, h0, h1, h2, h3, h4, h5, h6, h7, h8, h9, h10, h11, h12, if_true, if_false, Bool.false_eq_true]; rfl, HB1.out⟩
                          | false =>
                            cases h13 : (F.toList == [106]) with
                            | true =>
                              go_enter Tryd.func17, Tryd.ntmps17
                              go_wp2_with fail
                              refine K55.mono ?_
                              rintro e w1 ⟨rfl, hb1⟩
                              clear K55
                              have HB1 : Hid (Below w.heap.size w w1) := hb1
                              clear hb1
                              go_wp2
                              go_ret
                              exact ⟨by unfold patL; simp only [hn, h0, h1, h2, h3, h4, h5, h6, h7, h8, h9, h10, h11, h12, h13, if_true, if_false, Bool.false_eq_true]; rfl, HB1.out⟩
                            | false =>
                              cases h14 : (F.toList == [115, 111]) with
                              | true =>
                                go_enter Tryd.func17, Tryd.ntmps17
                                go_wp2_with fail
                                refine K55.mono ?_
                                rintro e w1 ⟨rfl, hb1⟩
                                clear K55
                                have HB1 : Hid (Below w.heap.size w w1) := hb1
                                clear hb1
                                go_wp2
                                go_ret
                                exact ⟨by unfold patL; simp only [hn, h0, h1, h2, h3, h4, h5, h6, h7, h8, h9, h10, h11, h12, h13, h14, if_true, if_false, Bool.false_eq_true]; rfl, HB1.out⟩
                              | false =>
                                cases h15 : (F.toList == [115, 116, 111]) with
                                | true =>
                                  go_enter Tryd.func17, Tryd.ntmps17
                                  go_wp2_with fail
                                  refine K55.mono ?_
                                  rintro e w1 ⟨rfl, hb1⟩
                                  clear K55
                                  have HB1 : Hid (Below w.heap.size w w1) := hb1
                                  clear hb1
                                  go_wp2
                                  go_ret
                                  exact ⟨by unfold patL; simp only [hn, h0, h1, h2, h3, h4, h5, h6, h7, h8, h9, h10, h11, h12, h13, h14, h15, if_true, if_false, Bool.false_eq_true]; rfl, HB1.out⟩
                                | false =>
                                  cases h16 : (F.toList == [116, 115, 105]) with
                                  | true =>
                                    go_enter Tryd.func17, Tryd.ntmps17
                                    go_wp2_with fail
                                    refine K55.mono ?_
                                    rintro e w1 ⟨rfl, hb1⟩
                                    clear K55
                                    have HB1 : Hid (Below w.heap.size w w1) := hb1
                                    clear hb1
                                    go_wp2
                                    go_ret
                                    exact ⟨by unfold patL; simp only [hn, h0, h1, h2, h3, h4, h5, h6, h7, h8, h9, h10, h11, h12, h13, h14, h15, h16, if_true, if_false, Bool.false_eq_true]; rfl, HB1.out⟩
                                  | false =>
                                    cases h17 : (F.toList == [116, 105]) with
                                    | true =>
                                      go_enter Tryd.func17, Tryd.ntmps17
                                      go_wp2_with fail
                                      refine K55.mono ?_
                                      rintro e w1 ⟨rfl, hb1⟩
                                      clear K55
                                      have HB1 : Hid (Below w.heap.size w w1) := hb1
                                      clear hb1
                                      go_wp2
                                      go_ret
                                      exact ⟨by unfold patL; simp only [hn, h0, h1, h2, h3, h4, h5, h6, h7, h8, h9, h10, h11, h12, h13, h14, h15, h16, h17, if_true, if_false, Bool.false_eq_true]; rfl, HB1.out⟩
                                    | false =>
                                      cases h18 : (F.toList == [116, 109]) with
                                      | true =>
                                        go_enter Tryd.func17, Tryd.ntmps17
                                        go_wp2_with fail
                                        refine K55.mono ?_
                                        rintro e w1 ⟨rfl, hb1⟩
                                        clear K55
                                        have HB1 : Hid (Below w.heap.size w w1) := hb1
                                        clear hb1
                                        go_wp2
                                        go_ret
                                        exact ⟨by unfold patL; simp only [hn, h0, h1, h2, h3, h4, h5, h6, h7, h8, h9, h10, h11, h12, h13, h14, h15, h16, h17, h18, if_true, if_false, Bool.false_eq_true]; rfl, HB1.out⟩
                                      | false =>
                                        cases h19 : (F.toList == [116, 115, 120]) with
                                        | true =>
                                          go_enter Tryd.func17, Tryd.ntmps17
                                          go_wp2_with fail
                                          refine K55.mono ?_
                                          rintro e w1 ⟨rfl, hb1⟩
                                          clear K55
                                          have HB1 : Hid (Below w.heap.size w w1) := hb1
                                          clear hb1
                                          go_wp2
                                          go_ret
                                          exact ⟨by unfold patL; simp only [hn, h0, h1, h2, h3, h4, h5, h6, h7, h8, h9, h10, h11, h12, h13, h14, h15, h16, h17, h18, h19, if_true, if_false, Bool.false_eq_true]; rfl, HB1.out⟩
                                        | false =>
                                          go_enter Tryd.func17, Tryd.ntmps17
                                          go_wp2_with fail
                                          refine K55.mono ?_
                                          rintro e w1 ⟨rfl, hb1⟩
                                          clear K55
                                          have HB1 : Hid (Below w.heap.size w w1) := hb1
                                          clear hb1
                                          go_wp2
                                          go_ret
                                          exact ⟨by unfold patL; simp only [hn, h0, h1, h2, h3, h4, h5, h6, h7, h8, h9, h10, h11, h12, h13, h14, h15, h16, h17, h18, h19, if_true, if_false, Bool.false_eq_true]; rfl, HB1.out⟩
end Go.Proofs.YtglkkeelocdanaaDoor
