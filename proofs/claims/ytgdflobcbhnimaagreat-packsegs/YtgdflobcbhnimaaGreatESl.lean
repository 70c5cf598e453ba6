/- What is proved here: which segments cannot be: the program's and the document's. -/
import Derived.Test.YtgdflobcbhnimaaGreatETk
import Derived.Laws.StructEq
namespace Go.Proofs.YtgdflobcbhnimaaGreat.E
open Go.RowKit
set_option linter.unusedVariables false
set_option linter.unusedSimpArgs false
set_option maxRecDepth 100000
set_option maxHeartbeats 4000000 in
theorem unfit26 (g : Sg) (hb : g.Bd) (w : World) : Calls Tryz.prog 109 #[g.val] w fun e w' => e = .returned (.bool (!fitS g)) ∧ Below w.heap.size w w' := by
  obtain ⟨W, hW, hbl, hz, q0, q1, q2, q3, q4, q5, q6⟩ := box7 w g
  have HB : Hid (Below w.heap.size w W) := hbl
  have b1 := hb.k0; have b2 := hb.k1; have b7 := hb.p0; have b8 := hb.p1; have b3 : (g.off : Int) < 4294967296 := by have := hb.o; omega
  have b4 : (g.at_ : Int) < 4294967296 := by have := hb.a; omega
  have b5 : (g.size : Int) < 4294967296 := by have := hb.s; omega
  have b6 : (g.room : Int) < 4294967296 := by have := hb.r; omega
  have b9 : (g.align : Int) < 4294967296 := by have := hb.l; omega
  have HBD : Hid g.Bd := hb
  unfold Sg.val
  clear hbl hz hb
  by_cases h1 : g.prot < 0
  · have dh1 := decide_eq_true h1
    have E : fitS g = false := decide_eq_false (by unfold FitS; omega)
    rw [E]
    clear E
    go_enter Tryz.func109, Tryz.ntmps109
    go_wp2
    go_ret
    exact ⟨rfl, HB.out⟩
  · have dh1 := decide_eq_false h1
    by_cases h2 : (7 : Int) < g.prot
    · have dh2 := decide_eq_true h2
      have E : fitS g = false := decide_eq_false (by unfold FitS; omega)
      rw [E]
      clear E
      go_enter Tryz.func109, Tryz.ntmps109
      go_wp2
      go_ret
      exact ⟨rfl, HB.out⟩
    · have dh2 := decide_eq_false h2
      by_cases h3 : (g.room : Int) < (g.size : Int)
      · have dh3 := decide_eq_true h3
        have E : fitS g = false := decide_eq_false (by unfold FitS; omega)
        rw [E]
        clear E
        go_enter Tryz.func109, Tryz.ntmps109
        go_wp2
        go_ret
        exact ⟨rfl, HB.out⟩
      · have dh3 := decide_eq_false h3
        by_cases h4 : (4294967296 : Int) ≤ (g.off : Int) + (g.size : Int)
        · have dh4 := decide_eq_true h4
          have E : fitS g = false := decide_eq_false (by unfold FitS; omega)
          rw [E]
          clear E
          go_enter Tryz.func109, Tryz.ntmps109
          go_wp2_with fail
          refine (sum23 g.off g.size HBD.out.o HBD.out.s _).mono ?_
          rintro e w1 ⟨rfl, rfl⟩
          go_wp2
          go_ret
          exact ⟨rfl, HB.out⟩
        · have dh4 := decide_eq_false h4
          by_cases h5 : (4294967296 : Int) ≤ (g.at_ : Int) + (g.room : Int)
          · have dh5 := decide_eq_true h5
            have E : fitS g = false := decide_eq_false (by unfold FitS; omega)
            rw [E]
            clear E
            go_enter Tryz.func109, Tryz.ntmps109
            go_wp2_with fail
            refine (sum23 g.off g.size HBD.out.o HBD.out.s _).mono ?_
            rintro e w1 ⟨rfl, rfl⟩
            go_wp2_with fail
            refine (sum23 g.at_ g.room HBD.out.a HBD.out.r _).mono ?_
            rintro e w1 ⟨rfl, rfl⟩
            go_wp2
            go_ret
            exact ⟨rfl, HB.out⟩
          · have dh5 := decide_eq_false h5
            by_cases h6 : g.kind = 1
            · have Hh6 : Hid (g.kind = 1) := h6
              have eh6 : ((g.kind) == (1)) = true := by rw [h6]; exact beq_self_eq_true _
              have fh6 : ((g.kind) != (1)) = false := by rw [h6]; exact bne_self_eq_false _
              clear h6
              by_cases h9 : (g.align : Int) = 4096
              · have Hh9 : Hid ((g.align : Int) = 4096) := h9
                have eh9 : (((g.align : Int)) == (4096)) = true := by rw [h9]; exact beq_self_eq_true _
                have fh9 : (((g.align : Int)) != (4096)) = false := by rw [h9]; exact bne_self_eq_false _
                clear h9
                by_cases h10 : (g.off : Int) % 4096 = (g.at_ : Int) % 4096
                · have Hh10 : Hid ((g.off : Int) % 4096 = (g.at_ : Int) % 4096) := h10
                  have eh10 : (((g.off : Int) % 4096) == ((g.at_ : Int) % 4096)) = true := by rw [h10]; exact beq_self_eq_true _
                  have fh10 : (((g.off : Int) % 4096) != ((g.at_ : Int) % 4096)) = false := by rw [h10]; exact bne_self_eq_false _
                  clear h10
                  have E : fitS g = true := decide_eq_true (by have zh10 := Hh10.out; have zh9 := Hh9.out; have zh6 := Hh6.out; unfold FitS; omega)
                  rw [E]
                  clear E
                  go_enter Tryz.func109, Tryz.ntmps109
                  go_wp2_with fail
                  refine (sum23 g.off g.size HBD.out.o HBD.out.s _).mono ?_
                  rintro e w1 ⟨rfl, rfl⟩
                  go_wp2_with fail
                  refine (sum23 g.at_ g.room HBD.out.a HBD.out.r _).mono ?_
                  rintro e w1 ⟨rfl, rfl⟩
                  go_wp2
                  go_ret
                  exact ⟨rfl, HB.out⟩
                · have eh10 : (((g.off : Int) % 4096) == ((g.at_ : Int) % 4096)) = false := beq_eq_false_iff_ne.2 h10
                  have fh10 : (((g.off : Int) % 4096) != ((g.at_ : Int) % 4096)) = true := bne_iff_ne.2 h10
                  have E : fitS g = false := decide_eq_false (by have zh9 := Hh9.out; have zh6 := Hh6.out; unfold FitS; omega)
                  rw [E]
                  clear E
                  go_enter Tryz.func109, Tryz.ntmps109
                  go_wp2_with fail
                  refine (sum23 g.off g.size HBD.out.o HBD.out.s _).mono ?_
                  rintro e w1 ⟨rfl, rfl⟩
                  go_wp2_with fail
                  refine (sum23 g.at_ g.room HBD.out.a HBD.out.r _).mono ?_
                  rintro e w1 ⟨rfl, rfl⟩
                  go_wp2
                  go_ret
                  exact ⟨rfl, HB.out⟩
              · have eh9 : (((g.align : Int)) == (4096)) = false := beq_eq_false_iff_ne.2 h9
                have fh9 : (((g.align : Int)) != (4096)) = true := bne_iff_ne.2 h9
                have E : fitS g = false := decide_eq_false (by have zh6 := Hh6.out; unfold FitS; omega)
                rw [E]
                clear E
                go_enter Tryz.func109, Tryz.ntmps109
                go_wp2_with fail
                refine (sum23 g.off g.size HBD.out.o HBD.out.s _).mono ?_
                rintro e w1 ⟨rfl, rfl⟩
                go_wp2_with fail
                refine (sum23 g.at_ g.room HBD.out.a HBD.out.r _).mono ?_
                rintro e w1 ⟨rfl, rfl⟩
                go_wp2
                go_ret
                exact ⟨rfl, HB.out⟩
            · have eh6 : ((g.kind) == (1)) = false := beq_eq_false_iff_ne.2 h6
              have fh6 : ((g.kind) != (1)) = true := bne_iff_ne.2 h6
              by_cases h7 : g.kind = 2
              · have Hh7 : Hid (g.kind = 2) := h7
                have eh7 : ((g.kind) == (2)) = true := by rw [h7]; exact beq_self_eq_true _
                have fh7 : ((g.kind) != (2)) = false := by rw [h7]; exact bne_self_eq_false _
                clear h7
                by_cases h9 : (4096 : Int) < (g.align : Int)
                · have dh9 := decide_eq_true h9
                  have E : fitS g = false := decide_eq_false (by have zh7 := Hh7.out; unfold FitS; omega)
                  rw [E]
                  clear E
                  go_enter Tryz.func109, Tryz.ntmps109
                  go_wp2_with fail
                  refine (sum23 g.off g.size HBD.out.o HBD.out.s _).mono ?_
                  rintro e w1 ⟨rfl, rfl⟩
                  go_wp2_with fail
                  refine (sum23 g.at_ g.room HBD.out.a HBD.out.r _).mono ?_
                  rintro e w1 ⟨rfl, rfl⟩
                  go_wp2
                  go_ret
                  exact ⟨rfl, HB.out⟩
                · have dh9 := decide_eq_false h9
                  have E : fitS g = true := decide_eq_true (by have zh7 := Hh7.out; unfold FitS; omega)
                  rw [E]
                  clear E
                  go_enter Tryz.func109, Tryz.ntmps109
                  go_wp2_with fail
                  refine (sum23 g.off g.size HBD.out.o HBD.out.s _).mono ?_
                  rintro e w1 ⟨rfl, rfl⟩
                  go_wp2_with fail
                  refine (sum23 g.at_ g.room HBD.out.a HBD.out.r _).mono ?_
                  rintro e w1 ⟨rfl, rfl⟩
                  go_wp2
                  go_ret
                  exact ⟨rfl, HB.out⟩
              · have eh7 : ((g.kind) == (2)) = false := beq_eq_false_iff_ne.2 h7
                have fh7 : ((g.kind) != (2)) = true := bne_iff_ne.2 h7
                by_cases h8 : g.kind = 3
                · have Hh8 : Hid (g.kind = 3) := h8
                  have eh8 : ((g.kind) == (3)) = true := by rw [h8]; exact beq_self_eq_true _
                  have fh8 : ((g.kind) != (3)) = false := by rw [h8]; exact bne_self_eq_false _
                  clear h8
                  by_cases h9 : (4096 : Int) < (g.align : Int)
                  · have dh9 := decide_eq_true h9
                    have E : fitS g = false := decide_eq_false (by have zh8 := Hh8.out; unfold FitS; omega)
                    rw [E]
                    clear E
                    go_enter Tryz.func109, Tryz.ntmps109
                    go_wp2_with fail
                    refine (sum23 g.off g.size HBD.out.o HBD.out.s _).mono ?_
                    rintro e w1 ⟨rfl, rfl⟩
                    go_wp2_with fail
                    refine (sum23 g.at_ g.room HBD.out.a HBD.out.r _).mono ?_
                    rintro e w1 ⟨rfl, rfl⟩
                    go_wp2
                    go_ret
                    exact ⟨rfl, HB.out⟩
                  · have dh9 := decide_eq_false h9
                    have E : fitS g = true := decide_eq_true (by have zh8 := Hh8.out; unfold FitS; omega)
                    rw [E]
                    clear E
                    go_enter Tryz.func109, Tryz.ntmps109
                    go_wp2_with fail
                    refine (sum23 g.off g.size HBD.out.o HBD.out.s _).mono ?_
                    rintro e w1 ⟨rfl, rfl⟩
                    go_wp2_with fail
                    refine (sum23 g.at_ g.room HBD.out.a HBD.out.r _).mono ?_
                    rintro e w1 ⟨rfl, rfl⟩
                    go_wp2
                    go_ret
                    exact ⟨rfl, HB.out⟩
                · have eh8 : ((g.kind) == (3)) = false := beq_eq_false_iff_ne.2 h8
                  have fh8 : ((g.kind) != (3)) = true := bne_iff_ne.2 h8
                  have E : fitS g = false := decide_eq_false (by unfold FitS; omega)
                  rw [E]
                  clear E
                  go_enter Tryz.func109, Tryz.ntmps109
                  go_wp2_with fail
                  refine (sum23 g.off g.size HBD.out.o HBD.out.s _).mono ?_
                  rintro e w1 ⟨rfl, rfl⟩
                  go_wp2_with fail
                  refine (sum23 g.at_ g.room HBD.out.a HBD.out.r _).mono ?_
                  rintro e w1 ⟨rfl, rfl⟩
                  go_wp2
                  go_ret
                  exact ⟨rfl, HB.out⟩
set_option maxHeartbeats 4000000 in
theorem fitSeg27 (g : Sg) (hb : g.Bd) (w : World) : Calls Tryz.prog 78 #[g.val] w fun e w' => e = .returned (.bool (fitS g)) ∧ Below w.heap.size w w' := by
  obtain ⟨W, hW, hbl, hz, q0, q1, q2, q3, q4, q5, q6⟩ := box7 w g
  have HB : Hid (Below w.heap.size w W) := hbl
  have b1 := hb.k0; have b2 := hb.k1; have b7 := hb.p0; have b8 := hb.p1; have b3 : (g.off : Int) < 4294967296 := by have := hb.o; omega
  have b4 : (g.at_ : Int) < 4294967296 := by have := hb.a; omega
  have b5 : (g.size : Int) < 4294967296 := by have := hb.s; omega
  have b6 : (g.room : Int) < 4294967296 := by have := hb.r; omega
  have b9 : (g.align : Int) < 4294967296 := by have := hb.l; omega
  have HBD : Hid g.Bd := hb
  unfold Sg.val
  clear hbl hz hb
  by_cases h1 : g.kind < 1
  · have dh1 := decide_eq_true h1
    have E : fitS g = false := decide_eq_false (by unfold FitS; omega)
    rw [E]
    clear E
    go_enter Tryz.func78, Tryz.ntmps78
    go_wp2
    go_ret
    exact ⟨rfl, HB.out⟩
  · have dh1 := decide_eq_false h1
    by_cases h2 : (3 : Int) < g.kind
    · have dh2 := decide_eq_true h2
      have E : fitS g = false := decide_eq_false (by unfold FitS; omega)
      rw [E]
      clear E
      go_enter Tryz.func78, Tryz.ntmps78
      go_wp2
      go_ret
      exact ⟨rfl, HB.out⟩
    · have dh2 := decide_eq_false h2
      by_cases h3 : g.prot < 0
      · have dh3 := decide_eq_true h3
        have E : fitS g = false := decide_eq_false (by unfold FitS; omega)
        rw [E]
        clear E
        go_enter Tryz.func78, Tryz.ntmps78
        go_wp2
        go_ret
        exact ⟨rfl, HB.out⟩
      · have dh3 := decide_eq_false h3
        by_cases h4 : (7 : Int) < g.prot
        · have dh4 := decide_eq_true h4
          have E : fitS g = false := decide_eq_false (by unfold FitS; omega)
          rw [E]
          clear E
          go_enter Tryz.func78, Tryz.ntmps78
          go_wp2
          go_ret
          exact ⟨rfl, HB.out⟩
        · have dh4 := decide_eq_false h4
          by_cases h5 : (g.room : Int) < (g.size : Int)
          · have dh5 := decide_eq_true h5
            have E : fitS g = false := decide_eq_false (by unfold FitS; omega)
            rw [E]
            clear E
            go_enter Tryz.func78, Tryz.ntmps78
            go_wp2
            go_ret
            exact ⟨rfl, HB.out⟩
          · have dh5 := decide_eq_false h5
            by_cases h6 : (4294967296 : Int) ≤ (g.off : Int) + (g.size : Int)
            · have dh6 := decide_eq_true h6
              have E : fitS g = false := decide_eq_false (by unfold FitS; omega)
              rw [E]
              clear E
              go_enter Tryz.func78, Tryz.ntmps78
              go_wp2
              go_ret
              exact ⟨rfl, HB.out⟩
            · have dh6 := decide_eq_false h6
              by_cases h7 : (4294967296 : Int) ≤ (g.at_ : Int) + (g.room : Int)
              · have dh7 := decide_eq_true h7
                have E : fitS g = false := decide_eq_false (by unfold FitS; omega)
                rw [E]
                clear E
                go_enter Tryz.func78, Tryz.ntmps78
                go_wp2
                go_ret
                exact ⟨rfl, HB.out⟩
              · have dh7 := decide_eq_false h7
                by_cases h8 : (4096 : Int) < (g.align : Int)
                · have dh8 := decide_eq_true h8
                  have E : fitS g = false := decide_eq_false (by unfold FitS; omega)
                  rw [E]
                  clear E
                  go_enter Tryz.func78, Tryz.ntmps78
                  go_wp2
                  go_ret
                  exact ⟨rfl, HB.out⟩
                · have dh8 := decide_eq_false h8
                  by_cases h9 : g.kind = 1
                  · have Hh9 : Hid (g.kind = 1) := h9
                    have eh9 : ((g.kind) == (1)) = true := by rw [h9]; exact beq_self_eq_true _
                    have fh9 : ((g.kind) != (1)) = false := by rw [h9]; exact bne_self_eq_false _
                    clear h9
                    by_cases h10 : (g.align : Int) = 4096
                    · have Hh10 : Hid ((g.align : Int) = 4096) := h10
                      have eh10 : (((g.align : Int)) == (4096)) = true := by rw [h10]; exact beq_self_eq_true _
                      have fh10 : (((g.align : Int)) != (4096)) = false := by rw [h10]; exact bne_self_eq_false _
                      clear h10
                      by_cases h11 : (g.off : Int) % 4096 = (g.at_ : Int) % 4096
                      · have Hh11 : Hid ((g.off : Int) % 4096 = (g.at_ : Int) % 4096) := h11
                        have eh11 : (((g.off : Int) % 4096) == ((g.at_ : Int) % 4096)) = true := by rw [h11]; exact beq_self_eq_true _
                        have fh11 : (((g.off : Int) % 4096) != ((g.at_ : Int) % 4096)) = false := by rw [h11]; exact bne_self_eq_false _
                        clear h11
                        have E : fitS g = true := decide_eq_true (by have zh11 := Hh11.out; have zh10 := Hh10.out; have zh9 := Hh9.out; unfold FitS; omega)
                        rw [E]
                        clear E
                        go_enter Tryz.func78, Tryz.ntmps78
                        go_wp2
                        go_ret
                        exact ⟨rfl, HB.out⟩
                      · have eh11 : (((g.off : Int) % 4096) == ((g.at_ : Int) % 4096)) = false := beq_eq_false_iff_ne.2 h11
                        have fh11 : (((g.off : Int) % 4096) != ((g.at_ : Int) % 4096)) = true := bne_iff_ne.2 h11
                        have E : fitS g = false := decide_eq_false (by have zh10 := Hh10.out; have zh9 := Hh9.out; unfold FitS; omega)
                        rw [E]
                        clear E
                        go_enter Tryz.func78, Tryz.ntmps78
                        go_wp2
                        go_ret
                        exact ⟨rfl, HB.out⟩
                    · have eh10 : (((g.align : Int)) == (4096)) = false := beq_eq_false_iff_ne.2 h10
                      have fh10 : (((g.align : Int)) != (4096)) = true := bne_iff_ne.2 h10
                      have E : fitS g = false := decide_eq_false (by have zh9 := Hh9.out; unfold FitS; omega)
                      rw [E]
                      clear E
                      go_enter Tryz.func78, Tryz.ntmps78
                      go_wp2
                      go_ret
                      exact ⟨rfl, HB.out⟩
                  · have eh9 : ((g.kind) == (1)) = false := beq_eq_false_iff_ne.2 h9
                    have fh9 : ((g.kind) != (1)) = true := bne_iff_ne.2 h9
                    have E : fitS g = true := decide_eq_true (by unfold FitS; omega)
                    rw [E]
                    clear E
                    go_enter Tryz.func78, Tryz.ntmps78
                    go_wp2
                    go_ret
                    exact ⟨rfl, HB.out⟩
end Go.Proofs.YtgdflobcbhnimaaGreat.E
namespace Go.Proofs.YtgdflobcbhnimaaGreat.E
open Go.RowKit
set_option linter.unusedVariables false
set_option linter.unusedSimpArgs false
set_option maxRecDepth 100000
/-- A segment lies in seven cells. -/
def At7 (w : World) (b o : Nat) (g : Sg) : Prop := w.cell? ⟨b, o, none⟩ = some (.int .i64 (g.kind : Int)) ∧ w.cell? ⟨b, o + 1, none⟩ = some (.int .u32 (g.off : Int)) ∧ w.cell? ⟨b, o + 2, none⟩ = some (.int .u32 (g.at_ : Int)) ∧ w.cell? ⟨b, o + 3, none⟩ = some (.int .u32 (g.size : Int)) ∧ w.cell? ⟨b, o + 4, none⟩ = some (.int .u32 (g.room : Int)) ∧ w.cell? ⟨b, o + 5, none⟩ = some (.int .i64 (g.prot : Int)) ∧ w.cell? ⟨b, o + 6, none⟩ = some (.int .u32 (g.align : Int))
theorem At7.keep {w w' : World} {b o : Nat} {g : Sg} (h : At7 w b o g) (hb : Below w.heap.size w w') : At7 w' b o g := by
  obtain ⟨h0, h1, h2, h3, h4, h5, h6⟩ := h
  exact ⟨keep_cell hb h0, keep_cell hb h1, keep_cell hb h2, keep_cell hb h3, keep_cell hb h4, keep_cell hb h5, keep_cell hb h6⟩
/-- A slice holds segments. -/
def SlG (w : World) (v : Value) (gs : List Sg) : Prop :=
  ∃ ao cap, v = .slice ao gs.length cap ∧ gs.length ≤ cap ∧ cap ≤ 9223372036854775807 ∧ (ao = none → cap = 0) ∧
   ∀ i (h : i < gs.length), ∃ b o, ao = some ⟨b, o, none⟩ ∧ At7 w b (o + i * 7) gs[i]
theorem SlG.keep {w w' : World} {v : Value} {gs : List Sg} (h : SlG w v gs) (hb : Below w.heap.size w w') : SlG w' v gs := by
  obtain ⟨ao, cap, rfl, h1, h2, h3, h4⟩ := h
  refine ⟨ao, cap, rfl, h1, h2, h3, fun i hi => ?_⟩
  obtain ⟨b, o, e, c⟩ := h4 i hi
  exact ⟨b, o, e, c.keep hb⟩
theorem SlG.nil (w : World) : SlG w (.slice none 0 0) [] := ⟨none, 0, rfl, Nat.le_refl _, by decide, fun _ => rfl, fun i h => absurd h (Nat.not_lt_zero _)⟩
set_option maxHeartbeats 1000000 in
theorem index39_0 (f : Nat) (gs : List Sg) (v : Value) (p : Sg → Bool) (w : World) (hs : SlG w v gs) (hn : gs.length ≤ 1000000)
    (eg : ∀ args w, (callFunc f args).run Tryz.prog w = .ok (.enter f args) w)
    (hf : ∀ w1 g, Below w.heap.size w w1 → g ∈ gs → Calls Tryz.prog f #[g.val] w1 fun e w' => e = .returned (.bool (p g)) ∧ Below w1.heap.size w1 w') :
    Calls Tryz.prog 120 #[v, .func (.func f) #[] #[]] w fun e w' => (∃ i : Int, e = .returned (.int .i64 i) ∧ decide (0 ≤ i) = gs.any p) ∧ Below w.heap.size w w' := by
  obtain ⟨ao, cap, rfl, s1, s2, s3, s4⟩ := hs
  have HS : Hid (∀ i (h : i < gs.length), ∃ b o, ao = some ⟨b, o, none⟩ ∧ At7 w b (o + i * 7) gs[i]) := s4
  have HF : Hid (∀ w1 g, Below w.heap.size w w1 → g ∈ gs → Calls Tryz.prog f #[g.val] w1 fun e w' => e = .returned (.bool (p g)) ∧ Below w1.heap.size w1 w') := hf
  clear s3 s4 hf
  go_enter Tryz.func120, Tryz.ntmps120
  go_wp2
  go_loopw [8] (fun x wr => ∃ k : Nat, x = .int .i64 (k : Int) ∧ k ≤ gs.length ∧ (gs.take k).any p = false ∧ Below w.heap.size w wr) (fun x _ => gs.length - (intOf x).toNat)
  case atStart => exact ⟨0, rfl, Nat.zero_le _, rfl, Below.refl _ _⟩
  case round =>
    obtain ⟨k, rfl, hk, hall, hb⟩ := hrel
    by_cases hlt : k < gs.length
    · obtain ⟨b, o, rfl, h7⟩ := HS.out k hlt
      have h7 := h7.keep hb
      obtain ⟨g, hg⟩ : ∃ g, g = gs[k] := ⟨_, rfl⟩
      rw [← hg] at h7
      have KF := HF.out wr g hb (by rw [hg]; exact List.getElem_mem hlt)
      have htk : (gs.take (k + 1)).any p = p g := by
        rw [List.take_succ_eq_append_getElem hlt, List.any_append, hall, hg]; simp
      have hge : gs.any p = false → p g = false := fun h => by
        rw [List.any_eq_false] at h
        have := h g (by rw [hg]; exact List.getElem_mem hlt)
        simpa using this
      have HA : Hid ((gs.take (k + 1)).any p = p g ∧ (gs.any p = false → p g = false)) := ⟨htk, hge⟩
      clear htk hge hall hg
      obtain ⟨q0, q1, q2, q3, q4, q5, q6⟩ := h7
      unfold Sg.val at KF
      cases hp : p g with
      | false =>
        rw [hp] at KF HA
        clear hp
        go_wp2_with fail
        refine KF.mono ?_
        rintro e w1 ⟨rfl, hb1⟩
        clear KF q0 q1 q2 q3 q4 q5 q6
        go_wp2
        go_roundw
        case rel => exact ⟨k + 1, by go_num, by omega, HA.out.1, below_tr hb hb1⟩
        case measure => simp [intOf]; omega
      | true =>
        rw [hp] at KF HA
        clear hp
        have HT : Hid (gs.any p = true) := by
          cases hh : gs.any p with
          | true => exact rfl
          | false => exact absurd (HA.out.2 hh) (by decide)
        go_wp2_with fail
        refine KF.mono ?_
        rintro e w1 ⟨rfl, hb1⟩
        clear KF q0 q1 q2 q3 q4 q5 q6
        go_wp2
        go_ret
        exact ⟨⟨_, rfl, by rw [HT.out]; exact decide_eq_true (by omega)⟩, below_tr hb hb1⟩
    · have HT : Hid (gs.any p = false) := by rw [List.take_of_length_le (by omega)] at hall; exact hall
      go_wp2
      go_ret
      exact ⟨⟨_, rfl, by rw [HT.out]; rfl⟩, hb⟩
theorem contains21_0 (f : Nat) (gs : List Sg) (v : Value) (p : Sg → Bool) (w : World) (hs : SlG w v gs) (hn : gs.length ≤ 1000000)
    (eg : ∀ args w, (callFunc f args).run Tryz.prog w = .ok (.enter f args) w)
    (hf : ∀ w1 g, Below w.heap.size w w1 → g ∈ gs → Calls Tryz.prog f #[g.val] w1 fun e w' => e = .returned (.bool (p g)) ∧ Below w1.heap.size w1 w') :
    Calls Tryz.prog 108 #[v, .func (.func f) #[] #[]] w fun e w' => e = .returned (.bool (gs.any p)) ∧ Below w.heap.size w w' := by
  have K := index39_0 f gs v p w hs hn eg hf
  obtain ⟨ao, cap, rfl, s1, s2, s3, s4⟩ := hs
  clear hf s4 s3
  go_enter Tryz.func108, Tryz.ntmps108
  go_wp2_with fail
  refine K.mono ?_
  rintro e w1 ⟨⟨i, rfl, hi⟩, hb1⟩
  clear K
  go_wp2
  go_ret
  exact ⟨by first | (rw [← hi]; rfl) | rfl | (simp [← hi]), hb1⟩
/-- A header's value. -/
def Ef.val (e : Ef) (v : Value) : Value := .agg #[.bool e.shared, .int .u32 (e.entry : Int), v]
theorem box3 (w : World) (a b c : Value) (t : Nat) : ∃ W, w.alloc (.cells #[a, b, c] t) = W ∧ Below w.heap.size w W ∧ W.heap.size = w.heap.size + 1 ∧
    W.cell? ⟨w.heap.size, 0, none⟩ = some a ∧ W.cell? ⟨w.heap.size, 1, none⟩ = some b ∧ W.cell? ⟨w.heap.size, 2, none⟩ = some c := by
  refine ⟨_, rfl, (Below.refl _ _).alloc (Nat.le_refl _) _, by simp, ?_, ?_, ?_⟩ <;> exact cell_newA w _ _ _ _ _ rfl rfl
theorem fit_any (gs : List Sg) : gs.all fitS = !gs.any (fun g => !fitS g) := by
  induction gs with
  | nil => rfl
  | cons g t ih => rw [List.all_cons, List.any_cons, ih]; cases fitS g <;> rfl
set_option maxHeartbeats 1000000 in
theorem fit13 (e : Ef) (v : Value) (w : World) (hs : SlG w v e.segs) (hb : ∀ g ∈ e.segs, g.Bd) (hn : e.segs.length ≤ 1000000) :
    Calls Tryz.prog 89 #[e.val v] w fun r w' => r = .returned (.bool (fitE e)) ∧ Below w.heap.size w w' := by
  obtain ⟨W, hW, hbl, hz, q0, q1, q2⟩ := box3 w (.bool e.shared) (.int .u32 (e.entry : Int)) v 37
  have eg := enters_of Tryz.func109 (by kernel_rfl) rfl
  have K := contains21_0 109 e.segs v (fun g => !fitS g) W (hs.keep hbl) hn eg (fun w1 g _ hg => unfit26 g (hb g hg) w1)
  have HB : Hid (Below w.heap.size w W) := hbl
  have hfe : fitE e = (decide (e.segs.length ≤ 16) && !e.segs.any (fun g => !fitS g)) := by unfold fitE; rw [fit_any]
  rw [hfe]
  clear hfe
  generalize e.segs.any (fun g => !fitS g) = B at K ⊢
  obtain ⟨ao, cap, rfl, s1, s2, s3, s4⟩ := hs
  clear s4 hb hbl s3 hz
  unfold Ef.val
  by_cases h16 : e.segs.length ≤ 16
  · have i16 : (e.segs.length : Int) ≤ 16 := by omega
    have d16 := decide_eq_true i16
    rw [decide_eq_true h16, Bool.true_and]
    go_enter Tryz.func89, Tryz.ntmps89
    go_wp2_with fail
    refine K.mono ?_
    rintro e w1 ⟨rfl, hb1⟩
    clear K
    go_wp2
    go_ret
    exact ⟨rfl, below_tr HB.out hb1⟩
  · have i16 : ¬ (e.segs.length : Int) ≤ 16 := by omega
    have d16 := decide_eq_false i16
    rw [decide_eq_false h16, Bool.false_and]
    clear K
    go_enter Tryz.func89, Tryz.ntmps89
    go_wp2
    go_ret
    exact ⟨rfl, HB.out⟩
set_option maxHeartbeats 1000000 in
theorem rfit14 (e : Ef) (v : Value) (w : World) (hs : SlG w v e.segs) (hb : ∀ g ∈ e.segs, g.Bd) (hn : e.segs.length ≤ 1000000) :
    Calls Tryz.prog 44 #[e.val v] w fun r w' => r = .returned (.bool (fitE e)) ∧ Below w.heap.size w w' := by
  obtain ⟨W, hW, hbl, hz, q0, q1, q2⟩ := box3 w (.bool e.shared) (.int .u32 (e.entry : Int)) v 37
  have HSK := hs.keep hbl
  obtain ⟨ao, cap, rfl, s1, s2, s3, s4⟩ := hs
  obtain ⟨gs, hgs⟩ : ∃ gs, gs = e.segs := ⟨_, rfl⟩
  have HFE : Hid (fitE e = (decide (gs.length ≤ 16) && gs.all fitS)) := by rw [hgs]; exact rfl
  rw [← hgs] at hb hn HSK s1 q2 hW ⊢
  unfold Ef.val
  generalize fitE e = FE at HFE ⊢
  have HS : Hid (SlG W (.slice ao gs.length cap) gs) := HSK
  have HBD : Hid (∀ g ∈ gs, g.Bd) := hb
  have HB : Hid (Below w.heap.size w W) := hbl
  have HQ : Hid (W.cell? ⟨w.heap.size, 2, none⟩ = some (.slice ao gs.length cap)) := q2
  clear s4 s3 hb HSK hbl hz hgs
  by_cases h16 : gs.length ≤ 16
  · have i16 : ¬ (16 : Int) < (gs.length : Int) := by omega
    go_enter Tryz.func44, Tryz.ntmps44
    go_wp2
    clear q0 q1 q2 hW
    go_loopw [3] (fun x wr => ∃ k : Nat, x = .int .i64 (k : Int) ∧ k ≤ gs.length ∧ (gs.take k).all fitS = true ∧ Below W.heap.size W wr) (fun x _ => gs.length - (intOf x).toNat)
    case atStart => exact ⟨0, rfl, Nat.zero_le _, rfl, Below.refl _ _⟩
    case round =>
      obtain ⟨k, rfl, hk, hall, hbr⟩ := hrel
      have qr := keep_cell hbr HQ.out
      by_cases hlt : k < gs.length
      · obtain ⟨ao', cap', he, _, _, _, h4⟩ := HS.out
        injection he with he1 he2 he3
        obtain ⟨b, o, hbo, h7⟩ := h4 k hlt
        rw [← he1] at hbo
        subst hbo
        have h7 := h7.keep hbr
        obtain ⟨g, hg⟩ : ∃ g, g = gs[k] := ⟨_, rfl⟩
        have hmem : g ∈ gs := by rw [hg]; exact List.getElem_mem hlt
        rw [← hg] at h7
        have KF := fitSeg27 g (HBD.out g hmem) wr
        have htk : (gs.take (k + 1)).all fitS = fitS g := by
          rw [List.take_succ_eq_append_getElem hlt, List.all_append, hall, hg]; simp
        have HA : Hid ((gs.take (k + 1)).all fitS = fitS g ∧ (fitS g = false → gs.all fitS = false)) := ⟨htk, fun h => by
          cases hh : gs.all fitS with
          | false => rfl
          | true => rw [List.all_eq_true] at hh; rw [hh g hmem] at h; cases h⟩
        clear htk hall hg hmem h4 he1 he2 he3
        obtain ⟨r0, r1, r2, r3, r4, r5, r6⟩ := h7
        unfold Sg.val at KF
        cases hp : fitS g with
        | true =>
          rw [hp] at KF HA
          clear hp
          go_wp2_with fail
          refine KF.mono ?_
          rintro e w1 ⟨rfl, hb1⟩
          clear KF r0 r1 r2 r3 r4 r5 r6 qr
          go_wp2
          go_roundw
          case rel => exact ⟨k + 1, by go_num, by omega, HA.out.1, below_tr hbr hb1⟩
          case measure => simp [intOf]; omega
        | false =>
          rw [hp] at KF HA
          clear hp
          go_wp2_with fail
          refine KF.mono ?_
          rintro e w1 ⟨rfl, hb1⟩
          clear KF r0 r1 r2 r3 r4 r5 r6 qr
          go_wp2
          go_ret
          exact ⟨by rw [HFE.out, HA.out.2 (by first | rfl | trivial), Bool.and_false]; rfl, below_tr HB.out (below_tr hbr hb1)⟩
      · have HT : Hid (gs.all fitS = true) := by rw [List.take_of_length_le (by omega)] at hall; exact hall
        go_wp2
        go_ret
        exact ⟨by rw [HFE.out, HT.out, decide_eq_true h16]; rfl, below_tr HB.out hbr⟩
  · have i16 : (16 : Int) < (gs.length : Int) := by omega
    go_enter Tryz.func44, Tryz.ntmps44
    go_wp2
    go_ret
    exact ⟨by rw [HFE.out, decide_eq_false h16]; rfl, HB.out⟩
end Go.Proofs.YtgdflobcbhnimaaGreat.E
namespace Go.Proofs.YtgdflobcbhnimaaGreat.E
open Go.RowKit
set_option linter.unusedVariables false
set_option linter.unusedSimpArgs false
set_option maxRecDepth 100000
end Go.Proofs.YtgdflobcbhnimaaGreat.E
