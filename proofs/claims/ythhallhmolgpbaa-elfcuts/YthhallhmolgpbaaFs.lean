/- What is proved here: which segments cannot be: the program's and the document's. -/
import Derived.Test.YthhallhmolgpbaaTk
namespace Go.Proofs.Ythhallhmolgpbaa
open Go.RowKit
set_option linter.unusedVariables false
set_option linter.unusedSimpArgs false
set_option maxRecDepth 100000
set_option maxHeartbeats 4000000 in
theorem unfit26 (g : Sg) (hb : g.Bd) (w : World) : Calls Try.prog 26 #[g.val] w fun e w' => e = .returned (.bool (!fitS g)) ∧ Below w.heap.size w w' := by
  obtain ⟨W, hW, hbl, hz, q0, q1, q2, q3, q4, q5, q6⟩ := box7 w g
  have HB : Hid (Below w.heap.size w W) := hbl
  have b1 := hb.k0; have b2 := hb.k1; have b7 := hb.p0; have b8 := hb.p1; have b3 : (g.off : Int) < 4294967296 := by have := hb.o; omega
  have b4 : (g.at_ : Int) < 4294967296 := by have := hb.a; omega
  have b5 : (g.size : Int) < 4294967296 := by have := hb.s; omega
  have b6 : (g.room : Int) < 4294967296 := by have := hb.r; omega
  have b9 : (g.align : Int) < 4294967296 := by have := hb.l; omega
  have HBD : Hid g.Bd := hb
  unfold Sg.val
  clear hbl hz hb
  by_cases h1 : g.prot < 0
  · have dh1 := decide_eq_true h1
    have E : fitS g = false := decide_eq_false (by unfold FitS; omega)
    rw [E]
    clear E
    go_enter Try.func26, Try.ntmps26
    go_wp2
    go_ret
    exact ⟨rfl, HB.out⟩
  · have dh1 := decide_eq_false h1
    by_cases h2 : (7 : Int) < g.prot
    · have dh2 := decide_eq_true h2
      have E : fitS g = false := decide_eq_false (by unfold FitS; omega)
      rw [E]
      clear E
      go_enter Try.func26, Try.ntmps26
      go_wp2
      go_ret
      exact ⟨rfl, HB.out⟩
    · have dh2 := decide_eq_false h2
      by_cases h3 : (g.room : Int) < (g.size : Int)
      · have dh3 := decide_eq_true h3
        have E : fitS g = false := decide_eq_false (by unfold FitS; omega)
        rw [E]
        clear E
        go_enter Try.func26, Try.ntmps26
        go_wp2
        go_ret
        exact ⟨rfl, HB.out⟩
      · have dh3 := decide_eq_false h3
        by_cases h4 : (4294967296 : Int) ≤ (g.off : Int) + (g.size : Int)
        · have dh4 := decide_eq_true h4
          have E : fitS g = false := decide_eq_false (by unfold FitS; omega)
          rw [E]
          clear E
          go_enter Try.func26, Try.ntmps26
          go_wp2_with fail
          refine (sum23 g.off g.size HBD.out.o HBD.out.s _).mono ?_
          rintro e w1 ⟨rfl, rfl⟩
          go_wp2
          go_ret
          exact ⟨rfl, HB.out⟩
        · have dh4 := decide_eq_false h4
          by_cases h5 : (4294967296 : Int) ≤ (g.at_ : Int) + (g.room : Int)
          · have dh5 := decide_eq_true h5
            have E : fitS g = false := decide_eq_false (by unfold FitS; omega)
            rw [E]
            clear E
            go_enter Try.func26, Try.ntmps26
            go_wp2_with fail
            refine (sum23 g.off g.size HBD.out.o HBD.out.s _).mono ?_
            rintro e w1 ⟨rfl, rfl⟩
            go_wp2_with fail
            refine (sum23 g.at_ g.room HBD.out.a HBD.out.r _).mono ?_
            rintro e w1 ⟨rfl, rfl⟩
            go_wp2
            go_ret
            exact ⟨rfl, HB.out⟩
          · have dh5 := decide_eq_false h5
            by_cases h6 : g.kind = 1
            · have Hh6 : Hid (g.kind = 1) := h6
              have eh6 : ((g.kind) == (1)) = true := by rw [h6]; exact beq_self_eq_true _
              have fh6 : ((g.kind) != (1)) = false := by rw [h6]; exact bne_self_eq_false _
              clear h6
              by_cases h9 : (g.align : Int) = 4096
              · have Hh9 : Hid ((g.align : Int) = 4096) := h9
                have eh9 : (((g.align : Int)) == (4096)) = true := by rw [h9]; exact beq_self_eq_true _
                have fh9 : (((g.align : Int)) != (4096)) = false := by rw [h9]; exact bne_self_eq_false _
                clear h9
                by_cases h10 : (g.off : Int) % 4096 = (g.at_ : Int) % 4096
                · have Hh10 : Hid ((g.off : Int) % 4096 = (g.at_ : Int) % 4096) := h10
                  have eh10 : (((g.off : Int) % 4096) == ((g.at_ : Int) % 4096)) = true := by rw [h10]; exact beq_self_eq_true _
                  have fh10 : (((g.off : Int) % 4096) != ((g.at_ : Int) % 4096)) = false := by rw [h10]; exact bne_self_eq_false _
                  clear h10
                  have E : fitS g = true := decide_eq_true (by have zh10 := Hh10.out; have zh9 := Hh9.out; have zh6 := Hh6.out; unfold FitS; omega)
                  rw [E]
                  clear E
                  go_enter Try.func26, Try.ntmps26
                  go_wp2_with fail
                  refine (sum23 g.off g.size HBD.out.o HBD.out.s _).mono ?_
                  rintro e w1 ⟨rfl, rfl⟩
                  go_wp2_with fail
                  refine (sum23 g.at_ g.room HBD.out.a HBD.out.r _).mono ?_
                  rintro e w1 ⟨rfl, rfl⟩
                  go_wp2
                  go_ret
                  exact ⟨rfl, HB.out⟩
                · have eh10 : (((g.off : Int) % 4096) == ((g.at_ : Int) % 4096)) = false := beq_eq_false_iff_ne.2 h10
                  have fh10 : (((g.off : Int) % 4096) != ((g.at_ : Int) % 4096)) = true := bne_iff_ne.2 h10
                  have E : fitS g = false := decide_eq_false (by have zh9 := Hh9.out; have zh6 := Hh6.out; unfold FitS; omega)
                  rw [E]
                  clear E
                  go_enter Try.func26, Try.ntmps26
                  go_wp2_with fail
                  refine (sum23 g.off g.size HBD.out.o HBD.out.s _).mono ?_
                  rintro e w1 ⟨rfl, rfl⟩
                  go_wp2_with fail
                  refine (sum23 g.at_ g.room HBD.out.a HBD.out.r _).mono ?_
                  rintro e w1 ⟨rfl, rfl⟩
                  go_wp2
                  go_ret
                  exact ⟨rfl, HB.out⟩
              · have eh9 : (((g.align : Int)) == (4096)) = false := beq_eq_false_iff_ne.2 h9
                have fh9 : (((g.align : Int)) != (4096)) = true := bne_iff_ne.2 h9
                have E : fitS g = false := decide_eq_false (by have zh6 := Hh6.out; unfold FitS; omega)
                rw [E]
                clear E
                go_enter Try.func26, Try.ntmps26
                go_wp2_with fail
                refine (sum23 g.off g.size HBD.out.o HBD.out.s _).mono ?_
                rintro e w1 ⟨rfl, rfl⟩
                go_wp2_with fail
                refine (sum23 g.at_ g.room HBD.out.a HBD.out.r _).mono ?_
                rintro e w1 ⟨rfl, rfl⟩
                go_wp2
                go_ret
                exact ⟨rfl, HB.out⟩
            · have eh6 : ((g.kind) == (1)) = false := beq_eq_false_iff_ne.2 h6
              have fh6 : ((g.kind) != (1)) = true := bne_iff_ne.2 h6
              by_cases h7 : g.kind = 2
              · have Hh7 : Hid (g.kind = 2) := h7
                have eh7 : ((g.kind) == (2)) = true := by rw [h7]; exact beq_self_eq_true _
                have fh7 : ((g.kind) != (2)) = false := by rw [h7]; exact bne_self_eq_false _
                clear h7
                by_cases h9 : (4096 : Int) < (g.align : Int)
                · have dh9 := decide_eq_true h9
                  have E : fitS g = false := decide_eq_false (by have zh7 := Hh7.out; unfold FitS; omega)
                  rw [E]
                  clear E
                  go_enter Try.func26, Try.ntmps26
                  go_wp2_with fail
                  refine (sum23 g.off g.size HBD.out.o HBD.out.s _).mono ?_
                  rintro e w1 ⟨rfl, rfl⟩
                  go_wp2_with fail
                  refine (sum23 g.at_ g.room HBD.out.a HBD.out.r _).mono ?_
                  rintro e w1 ⟨rfl, rfl⟩
                  go_wp2
                  go_ret
                  exact ⟨rfl, HB.out⟩
                · have dh9 := decide_eq_false h9
                  have E : fitS g = true := decide_eq_true (by have zh7 := Hh7.out; unfold FitS; omega)
                  rw [E]
                  clear E
                  go_enter Try.func26, Try.ntmps26
                  go_wp2_with fail
                  refine (sum23 g.off g.size HBD.out.o HBD.out.s _).mono ?_
                  rintro e w1 ⟨rfl, rfl⟩
                  go_wp2_with fail
                  refine (sum23 g.at_ g.room HBD.out.a HBD.out.r _).mono ?_
                  rintro e w1 ⟨rfl, rfl⟩
                  go_wp2
                  go_ret
                  exact ⟨rfl, HB.out⟩
              · have eh7 : ((g.kind) == (2)) = false := beq_eq_false_iff_ne.2 h7
                have fh7 : ((g.kind) != (2)) = true := bne_iff_ne.2 h7
                by_cases h8 : g.kind = 3
                · have Hh8 : Hid (g.kind = 3) := h8
                  have eh8 : ((g.kind) == (3)) = true := by rw [h8]; exact beq_self_eq_true _
                  have fh8 : ((g.kind) != (3)) = false := by rw [h8]; exact bne_self_eq_false _
                  clear h8
                  by_cases h9 : (4096 : Int) < (g.align : Int)
                  · have dh9 := decide_eq_true h9
                    have E : fitS g = false := decide_eq_false (by have zh8 := Hh8.out; unfold FitS; omega)
                    rw [E]
                    clear E
                    go_enter Try.func26, Try.ntmps26
                    go_wp2_with fail
                    refine (sum23 g.off g.size HBD.out.o HBD.out.s _).mono ?_
                    rintro e w1 ⟨rfl, rfl⟩
                    go_wp2_with fail
                    refine (sum23 g.at_ g.room HBD.out.a HBD.out.r _).mono ?_
                    rintro e w1 ⟨rfl, rfl⟩
                    go_wp2
                    go_ret
                    exact ⟨rfl, HB.out⟩
                  · have dh9 := decide_eq_false h9
                    have E : fitS g = true := decide_eq_true (by have zh8 := Hh8.out; unfold FitS; omega)
                    rw [E]
                    clear E
                    go_enter Try.func26, Try.ntmps26
                    go_wp2_with fail
                    refine (sum23 g.off g.size HBD.out.o HBD.out.s _).mono ?_
                    rintro e w1 ⟨rfl, rfl⟩
                    go_wp2_with fail
                    refine (sum23 g.at_ g.room HBD.out.a HBD.out.r _).mono ?_
                    rintro e w1 ⟨rfl, rfl⟩
                    go_wp2
                    go_ret
                    exact ⟨rfl, HB.out⟩
                · have eh8 : ((g.kind) == (3)) = false := beq_eq_false_iff_ne.2 h8
                  have fh8 : ((g.kind) != (3)) = true := bne_iff_ne.2 h8
                  have E : fitS g = false := decide_eq_false (by unfold FitS; omega)
                  rw [E]
                  clear E
                  go_enter Try.func26, Try.ntmps26
                  go_wp2_with fail
                  refine (sum23 g.off g.size HBD.out.o HBD.out.s _).mono ?_
                  rintro e w1 ⟨rfl, rfl⟩
                  go_wp2_with fail
                  refine (sum23 g.at_ g.room HBD.out.a HBD.out.r _).mono ?_
                  rintro e w1 ⟨rfl, rfl⟩
                  go_wp2
                  go_ret
                  exact ⟨rfl, HB.out⟩
set_option maxHeartbeats 4000000 in
theorem fitSeg27 (g : Sg) (hb : g.Bd) (w : World) : Calls Try.prog 27 #[g.val] w fun e w' => e = .returned (.bool (fitS g)) ∧ Below w.heap.size w w' := by
  obtain ⟨W, hW, hbl, hz, q0, q1, q2, q3, q4, q5, q6⟩ := box7 w g
  have HB : Hid (Below w.heap.size w W) := hbl
  have b1 := hb.k0; have b2 := hb.k1; have b7 := hb.p0; have b8 := hb.p1; have b3 : (g.off : Int) < 4294967296 := by have := hb.o; omega
  have b4 : (g.at_ : Int) < 4294967296 := by have := hb.a; omega
  have b5 : (g.size : Int) < 4294967296 := by have := hb.s; omega
  have b6 : (g.room : Int) < 4294967296 := by have := hb.r; omega
  have b9 : (g.align : Int) < 4294967296 := by have := hb.l; omega
  have HBD : Hid g.Bd := hb
  unfold Sg.val
  clear hbl hz hb
  by_cases h1 : g.kind < 1
  · have dh1 := decide_eq_true h1
    have E : fitS g = false := decide_eq_false (by unfold FitS; omega)
    rw [E]
    clear E
    go_enter Try.func27, Try.ntmps27
    go_wp2
    go_ret
    exact ⟨rfl, HB.out⟩
  · have dh1 := decide_eq_false h1
    by_cases h2 : (3 : Int) < g.kind
    · have dh2 := decide_eq_true h2
      have E : fitS g = false := decide_eq_false (by unfold FitS; omega)
      rw [E]
      clear E
      go_enter Try.func27, Try.ntmps27
      go_wp2
      go_ret
      exact ⟨rfl, HB.out⟩
    · have dh2 := decide_eq_false h2
      by_cases h3 : g.prot < 0
      · have dh3 := decide_eq_true h3
        have E : fitS g = false := decide_eq_false (by unfold FitS; omega)
        rw [E]
        clear E
        go_enter Try.func27, Try.ntmps27
        go_wp2
        go_ret
        exact ⟨rfl, HB.out⟩
      · have dh3 := decide_eq_false h3
        by_cases h4 : (7 : Int) < g.prot
        · have dh4 := decide_eq_true h4
          have E : fitS g = false := decide_eq_false (by unfold FitS; omega)
          rw [E]
          clear E
          go_enter Try.func27, Try.ntmps27
          go_wp2
          go_ret
          exact ⟨rfl, HB.out⟩
        · have dh4 := decide_eq_false h4
          by_cases h5 : (g.room : Int) < (g.size : Int)
          · have dh5 := decide_eq_true h5
            have E : fitS g = false := decide_eq_false (by unfold FitS; omega)
            rw [E]
            clear E
            go_enter Try.func27, Try.ntmps27
            go_wp2
            go_ret
            exact ⟨rfl, HB.out⟩
          · have dh5 := decide_eq_false h5
            by_cases h6 : (4294967296 : Int) ≤ (g.off : Int) + (g.size : Int)
            · have dh6 := decide_eq_true h6
              have E : fitS g = false := decide_eq_false (by unfold FitS; omega)
              rw [E]
              clear E
              go_enter Try.func27, Try.ntmps27
              go_wp2
              go_ret
              exact ⟨rfl, HB.out⟩
            · have dh6 := decide_eq_false h6
              by_cases h7 : (4294967296 : Int) ≤ (g.at_ : Int) + (g.room : Int)
              · have dh7 := decide_eq_true h7
                have E : fitS g = false := decide_eq_false (by unfold FitS; omega)
                rw [E]
                clear E
                go_enter Try.func27, Try.ntmps27
                go_wp2
                go_ret
                exact ⟨rfl, HB.out⟩
              · have dh7 := decide_eq_false h7
                by_cases h8 : (4096 : Int) < (g.align : Int)
                · have dh8 := decide_eq_true h8
                  have E : fitS g = false := decide_eq_false (by unfold FitS; omega)
                  rw [E]
                  clear E
                  go_enter Try.func27, Try.ntmps27
                  go_wp2
                  go_ret
                  exact ⟨rfl, HB.out⟩
                · have dh8 := decide_eq_false h8
                  by_cases h9 : g.kind = 1
                  · have Hh9 : Hid (g.kind = 1) := h9
                    have eh9 : ((g.kind) == (1)) = true := by rw [h9]; exact beq_self_eq_true _
                    have fh9 : ((g.kind) != (1)) = false := by rw [h9]; exact bne_self_eq_false _
                    clear h9
                    by_cases h10 : (g.align : Int) = 4096
                    · have Hh10 : Hid ((g.align : Int) = 4096) := h10
                      have eh10 : (((g.align : Int)) == (4096)) = true := by rw [h10]; exact beq_self_eq_true _
                      have fh10 : (((g.align : Int)) != (4096)) = false := by rw [h10]; exact bne_self_eq_false _
                      clear h10
                      by_cases h11 : (g.off : Int) % 4096 = (g.at_ : Int) % 4096
                      · have Hh11 : Hid ((g.off : Int) % 4096 = (g.at_ : Int) % 4096) := h11
                        have eh11 : (((g.off : Int) % 4096) == ((g.at_ : Int) % 4096)) = true := by rw [h11]; exact beq_self_eq_true _
                        have fh11 : (((g.off : Int) % 4096) != ((g.at_ : Int) % 4096)) = false := by rw [h11]; exact bne_self_eq_false _
                        clear h11
                        have E : fitS g = true := decide_eq_true (by have zh11 := Hh11.out; have zh10 := Hh10.out; have zh9 := Hh9.out; unfold FitS; omega)
                        rw [E]
                        clear E
                        go_enter Try.func27, Try.ntmps27
                        go_wp2
                        go_ret
                        exact ⟨rfl, HB.out⟩
                      · have eh11 : (((g.off : Int) % 4096) == ((g.at_ : Int) % 4096)) = false := beq_eq_false_iff_ne.2 h11
                        have fh11 : (((g.off : Int) % 4096) != ((g.at_ : Int) % 4096)) = true := bne_iff_ne.2 h11
                        have E : fitS g = false := decide_eq_false (by have zh10 := Hh10.out; have zh9 := Hh9.out; unfold FitS; omega)
                        rw [E]
                        clear E
                        go_enter Try.func27, Try.ntmps27
                        go_wp2
                        go_ret
                        exact ⟨rfl, HB.out⟩
                    · have eh10 : (((g.align : Int)) == (4096)) = false := beq_eq_false_iff_ne.2 h10
                      have fh10 : (((g.align : Int)) != (4096)) = true := bne_iff_ne.2 h10
                      have E : fitS g = false := decide_eq_false (by have zh9 := Hh9.out; unfold FitS; omega)
                      rw [E]
                      clear E
                      go_enter Try.func27, Try.ntmps27
                      go_wp2
                      go_ret
                      exact ⟨rfl, HB.out⟩
                  · have eh9 : ((g.kind) == (1)) = false := beq_eq_false_iff_ne.2 h9
                    have fh9 : ((g.kind) != (1)) = true := bne_iff_ne.2 h9
                    have E : fitS g = true := decide_eq_true (by unfold FitS; omega)
                    rw [E]
                    clear E
                    go_enter Try.func27, Try.ntmps27
                    go_wp2
                    go_ret
                    exact ⟨rfl, HB.out⟩
end Go.Proofs.Ythhallhmolgpbaa
