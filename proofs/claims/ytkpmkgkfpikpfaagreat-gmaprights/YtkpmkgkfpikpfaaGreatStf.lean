/- What is proved here: the first of some pages that are to be mapped. -/
import Derived.Test.YtkpmkgkfpikpfaaGreatSte
import Derived.Test.YtkpmkgkfpikpfaaGreatSw
import Derived.Test.YtkpmkgkfpikpfaaGreatSb
namespace Go.Proofs.YtkpmkgkfpikpfaaGreat
open Go.RowKit
set_option linter.unusedVariables false
set_option linter.unusedSimpArgs false
set_option maxRecDepth 100000
/-- Which page is the first; 0, 12 if there is no room. -/
def FpIs (ps : List (Nat × Int)) (st en a n : Nat) (fixed : Bool) (f : Nat) (err : Int) : Prop :=
  ((256 < n ∨ fixed = true ∧ 1048576 < a / 4096 + n) ∧ f = 0 ∧ err = 12) ∨
  (n ≤ 256 ∧ (fixed = true ∧ a / 4096 + n ≤ 1048576 ∨ fixed = false ∧ a ≠ 0 ∧ a % 4096 = 0 ∧ a / 4096 + n ≤ 458752 ∧ someB ps (a / 4096) n = false) ∧ f = a / 4096 ∧ err = 0) ∨
  (n ≤ 256 ∧ fixed = false ∧ ¬ (a ≠ 0 ∧ a % 4096 = 0 ∧ a / 4096 + n ≤ 458752 ∧ someB ps (a / 4096) n = false) ∧ ∃ ts, ts.Perm (takenL ps st en) ∧ RiseS ts ∧ f = (frR n (bwT ts ts.length) 458752).getD 0 ∧ err = if (frR n (bwT ts ts.length) 458752).isSome then 0 else 12)
def FpTold (ps : List (Nat × Int)) (st en a n : Nat) (fixed : Bool) (w : World) (e : Ending) (w' : World) : Prop := ∃ f : Nat, ∃ err : Int, e = .returned (.tuple #[.int .u32 (f : Int), .int .i64 err]) ∧ FpIs ps st en a n fixed f err ∧ Below w.heap.size w w'
set_option maxHeartbeats 4000000 in
theorem firstPage28 (vm vc vp : Value) (bs st en a n : Nat) (fixed : Bool) (ps : List (Nat × Int)) (w : World) (hm : ∃ a n p, vm = .slice a n p) (hc : ∃ a n p, vc = .slice a n p) (hp : Pg.Sl .i64 w vp ps) (hps : ∀ x ∈ ps, x.1 < 1048576) (hl : ps.length ≤ 256) (hst : st < 4294967296) (hen : en < 4294967296) (ha : a < 4294967296) (hn : n ≤ 1048576) :
    Calls Tryz.prog 28 #[.agg #[vm, vc, .int .u64 (bs : Int), vp, .int .u32 (st : Int), .int .u32 (en : Int)], .int .u32 (a : Int), .int .u32 (n : Int), .bool fixed] w (FpTold ps st en a n fixed w) := by
  obtain ⟨am, nm, pm, rfl⟩ := hm
  obtain ⟨ac, nc, pc, rfl⟩ := hc
  obtain ⟨ap, np, pp, rfl⟩ : ∃ a n p, vp = .slice a n p := by obtain ⟨a, p, h, _⟩ := hp; exact ⟨_, _, _, h⟩
  obtain ⟨W, hW⟩ : ∃ z, w.alloc (.cells #[.slice am nm pm, .slice ac nc pc, .int .u64 (bs : Int), .slice ap np pp, .int .u32 (st : Int), .int .u32 (en : Int)] 32) = z := ⟨_, rfl⟩
  have hb : Below w.heap.size w W := by rw [← hW]; exact (Below.refl _ _).alloc (Nat.le_refl _) _
  have hB : B6 W w.heap.size 32 (.slice am nm pm) (.slice ac nc pc) (.int .u64 (bs : Int)) (.slice ap np pp) (.int .u32 (st : Int)) (.int .u32 (en : Int)) := by rw [← hW]; exact B6.new w 32 _ _ _ _ _ _
  obtain ⟨d0, d1, d2, d3, d4, d5⟩ := hB.cells
  have HB : Hid (Below w.heap.size w W) := hb
  obtain ⟨q, hq⟩ : ∃ q, q = a / 4096 := ⟨_, rfl⟩
  have hql : q ≤ 1048575 := by omega
  have e1 : (a : Int) / 4096 = (q : Int) := by omega
  have e1' : (a : Int).tdiv 4096 = (q : Int) := by rw [Int.tdiv_eq_ediv_of_nonneg (by omega)]; omega
  obtain ⟨s, hs⟩ : ∃ s, s = q + n := ⟨_, rfl⟩
  have e2 : ((q : Int) + (n : Int)) % 4294967296 = (s : Int) := by omega
  have e2' : ((q : Int) + (n : Int)) = (s : Int) := by omega
  have K23 : Hid (∀ w', Calls Tryz.prog 23 #[.int .u32 (a : Int)] w' fun e w'' => e = .returned (.bool (decide (a % 4096 = 0))) ∧ w'' = w') := fun w' => isPlace23 a w'
  have K49 : Hid (Calls Tryz.prog 49 #[.agg #[.slice am nm pm, .slice ac nc pc, .int .u64 (bs : Int), .slice ap np pp], .int .u32 (q : Int), .int .u32 (n : Int)] W fun e w'' => e = .returned (.bool (!(someB ps q n))) ∧ Below W.heap.size W w'') := isUnmapped49 _ _ _ bs q n ps W ⟨_, _, _, rfl⟩ ⟨_, _, _, rfl⟩ (hp.keep hb) hps (by omega) hn (by omega)
  have K50 : Hid (n ≤ 256 → ∀ w', Below W.heap.size W w' → Calls Tryz.prog 50 #[.agg #[.slice am nm pm, .slice ac nc pc, .int .u64 (bs : Int), .slice ap np pp, .int .u32 (st : Int), .int .u32 (en : Int)], .int .u32 (n : Int)] w' (FrTold w' ps st en n)) := fun h w' hb' => freeRoom50 _ _ _ bs st en n ps w' ⟨_, _, _, rfl⟩ ⟨_, _, _, rfl⟩ (hp.keep (below_tr hb hb')) hps hl hst hen h
  have HS : Hid (s = a / 4096 + n ∧ q = a / 4096) := ⟨by rw [hs, hq], hq⟩
  have HQ : Hid (∀ f err, FpIs ps st en a n fixed f err → FpIs ps st en a n fixed f err) := fun _ _ h => h
  clear hp hps hl hst hen hb hB hq hs
  by_cases h256 : 256 < n
  · have hI : (256 : Int) < (n : Int) := by omega
    have HF : Hid (FpIs ps st en a n fixed 0 12) := .inl ⟨.inl h256, rfl, rfl⟩
    clear K49 K50
    go_enter Tryz.func28, Tryz.ntmps28
    go_wp2
    go_ret2
    exact ⟨0, 12, rfl, HF.out, HB.out⟩
  · have hI : ¬ (256 : Int) < (n : Int) := by omega
    have h256' : n ≤ 256 := by omega
    have K50' : Hid _ := K50.out h256'
    clear K50
    cases fixed with
    | true =>
      clear K49 K50'
      by_cases h2 : 1048576 < s
      · have hI2 : (1048576 : Int) < (s : Int) := by omega
        have HF : Hid (FpIs ps st en a n true 0 12) := .inl ⟨.inr ⟨rfl, by rw [← HS.out.1]; exact h2⟩, rfl, rfl⟩
        go_enter Tryz.func28, Tryz.ntmps28
        go_wp2
        go_ret2
        exact ⟨0, 12, rfl, HF.out, HB.out⟩
      · have hI2 : ¬ (1048576 : Int) < (s : Int) := by omega
        have HF : Hid (FpIs ps st en a n true q 0) := .inr (.inl ⟨h256', .inl ⟨rfl, by rw [← HS.out.1]; omega⟩, HS.out.2, rfl⟩)
        go_enter Tryz.func28, Tryz.ntmps28
        go_wp2
        go_ret2
        exact ⟨q, 0, rfl, HF.out, HB.out⟩
    | false =>
      by_cases h3 : a = 0
      · have hA : ((a : Int) != 0) = false := by rw [h3]; rfl
        have HN : Hid (¬ (a ≠ 0 ∧ a % 4096 = 0 ∧ a / 4096 + n ≤ 458752 ∧ someB ps (a / 4096) n = false)) := fun h => h.1 h3
        clear h3
        have HFN : Hid (n ≤ 256) := h256'
        clear K49
        go_enter Tryz.func28, Tryz.ntmps28
        go_wp2_with fail
        refine (K50'.out _ (Below.refl _ _)).mono ?_
        rintro e w7 ⟨ts, hp1, hp2, rfl, hb7⟩
        have HE : Hid (FpIs ps st en a n false ((frR n (bwT ts ts.length) 458752).getD 0) (if (frR n (bwT ts ts.length) 458752).isSome then 0 else 12) ∧ Below w.heap.size w w7) := ⟨.inr (.inr ⟨HFN.out, rfl, HN.out, ts, hp1, hp2, rfl, rfl⟩), below_tr HB.out hb7⟩
        generalize (frR n (bwT ts ts.length) 458752).getD 0 = f at HE ⊢
        generalize (if (frR n (bwT ts ts.length) 458752).isSome then (0 : Int) else 12) = er at HE ⊢
        clear hp1 hp2 hb7
        go_wp2
        go_ret2
        exact ⟨f, er, rfl, HE.out.1, HE.out.2⟩
      · have hA : ((a : Int) != 0) = true := by simp; exact h3
        by_cases h4 : a % 4096 = 0
        · have K23' : Hid (∀ w', Calls Tryz.prog 23 #[.int .u32 (a : Int)] w' fun e w'' => e = .returned (.bool true) ∧ w'' = w') := fun w' => by have := K23.out w'; rw [decide_eq_true h4] at this; exact this
          clear K23
          by_cases h5 : s ≤ 458752
          · have hI5 : (s : Int) ≤ 458752 := by omega
            cases h6 : someB ps q n with
            | true =>
              have HN : Hid (¬ (a ≠ 0 ∧ a % 4096 = 0 ∧ a / 4096 + n ≤ 458752 ∧ someB ps (a / 4096) n = false)) := fun h => by have := h.2.2.2; rw [← HS.out.2, h6] at this; cases this
              rw [h6] at K49
              have HFN : Hid (n ≤ 256) := h256'
              clear h3 h4
              go_enter Tryz.func28, Tryz.ntmps28
              go_wp2_with fail
              refine (K23'.out _).mono ?_
              rintro e w9 ⟨rfl, rfl⟩
              go_wp2_with fail
              refine K49.out.mono ?_
              rintro e w8 ⟨rfl, hb8⟩
              have d0 := keep_cell hb8 d0
              have d1 := keep_cell hb8 d1
              have d2 := keep_cell hb8 d2
              have d3 := keep_cell hb8 d3
              have d4 := keep_cell hb8 d4
              have d5 := keep_cell hb8 d5
              have HB8 : Hid (Below w.heap.size w w8) := below_tr HB.out hb8
              have K5 := K50'.out w8 hb8
              clear hb8 K49 K50'
              go_wp2_with fail
              refine (K5).mono ?_
              rintro e w7 ⟨ts, hp1, hp2, rfl, hb7⟩
              have HE : Hid (FpIs ps st en a n false ((frR n (bwT ts ts.length) 458752).getD 0) (if (frR n (bwT ts ts.length) 458752).isSome then 0 else 12) ∧ Below w.heap.size w w7) := ⟨.inr (.inr ⟨HFN.out, rfl, HN.out, ts, hp1, hp2, rfl, rfl⟩), below_tr HB8.out hb7⟩
              generalize (frR n (bwT ts ts.length) 458752).getD 0 = f at HE ⊢
              generalize (if (frR n (bwT ts ts.length) 458752).isSome then (0 : Int) else 12) = er at HE ⊢
              clear hp1 hp2 hb7
              go_wp2
              go_ret2
              exact ⟨f, er, rfl, HE.out.1, HE.out.2⟩
            | false =>
              have HF : Hid (FpIs ps st en a n false q 0) := .inr (.inl ⟨h256', .inr ⟨rfl, h3, h4, by rw [← HS.out.1]; exact h5, by rw [← HS.out.2]; exact h6⟩, HS.out.2, rfl⟩)
              rw [h6] at K49
              clear h3 h4 K50'
              go_enter Tryz.func28, Tryz.ntmps28
              go_wp2_with fail
              refine (K23'.out _).mono ?_
              rintro e w9 ⟨rfl, rfl⟩
              go_wp2_with fail
              refine K49.out.mono ?_
              rintro e w9 ⟨rfl, hb9⟩
              have HB9 : Hid (Below w.heap.size w w9) := below_tr HB.out hb9
              clear hb9
              go_wp2
              go_ret2
              exact ⟨q, 0, rfl, HF.out, HB9.out⟩
          · have hI5 : ¬ (s : Int) ≤ 458752 := by omega
            have HN : Hid (¬ (a ≠ 0 ∧ a % 4096 = 0 ∧ a / 4096 + n ≤ 458752 ∧ someB ps (a / 4096) n = false)) := fun h => h5 (by rw [HS.out.1]; exact h.2.2.1)
            have HFN : Hid (n ≤ 256) := h256'
            clear h3 h4
            clear K49
            go_enter Tryz.func28, Tryz.ntmps28
            go_wp2_with fail
            refine (K23'.out _).mono ?_
            rintro e w9 ⟨rfl, rfl⟩
            go_wp2_with fail
            refine (K50'.out _ (Below.refl _ _)).mono ?_
            rintro e w7 ⟨ts, hp1, hp2, rfl, hb7⟩
            have HE : Hid (FpIs ps st en a n false ((frR n (bwT ts ts.length) 458752).getD 0) (if (frR n (bwT ts ts.length) 458752).isSome then 0 else 12) ∧ Below w.heap.size w w7) := ⟨.inr (.inr ⟨HFN.out, rfl, HN.out, ts, hp1, hp2, rfl, rfl⟩), below_tr HB.out hb7⟩
            generalize (frR n (bwT ts ts.length) 458752).getD 0 = f at HE ⊢
            generalize (if (frR n (bwT ts ts.length) 458752).isSome then (0 : Int) else 12) = er at HE ⊢
            clear hp1 hp2 hb7
            go_wp2
            go_ret2
            exact ⟨f, er, rfl, HE.out.1, HE.out.2⟩
        · have K23' : Hid (∀ w', Calls Tryz.prog 23 #[.int .u32 (a : Int)] w' fun e w'' => e = .returned (.bool false) ∧ w'' = w') := fun w' => by have := K23.out w'; rw [decide_eq_false h4] at this; exact this
          have HN : Hid (¬ (a ≠ 0 ∧ a % 4096 = 0 ∧ a / 4096 + n ≤ 458752 ∧ someB ps (a / 4096) n = false)) := fun h => h4 h.2.1
          clear K23
          have HFN : Hid (n ≤ 256) := h256'
          clear h3 h4
          clear K49
          go_enter Tryz.func28, Tryz.ntmps28
          go_wp2_with fail
          refine (K23'.out _).mono ?_
          rintro e w9 ⟨rfl, rfl⟩
          go_wp2_with fail
          refine (K50'.out _ (Below.refl _ _)).mono ?_
          rintro e w7 ⟨ts, hp1, hp2, rfl, hb7⟩
          have HE : Hid (FpIs ps st en a n false ((frR n (bwT ts ts.length) 458752).getD 0) (if (frR n (bwT ts ts.length) 458752).isSome then 0 else 12) ∧ Below w.heap.size w w7) := ⟨.inr (.inr ⟨HFN.out, rfl, HN.out, ts, hp1, hp2, rfl, rfl⟩), below_tr HB.out hb7⟩
          generalize (frR n (bwT ts ts.length) 458752).getD 0 = f at HE ⊢
          generalize (if (frR n (bwT ts ts.length) 458752).isSome then (0 : Int) else 12) = er at HE ⊢
          clear hp1 hp2 hb7
          go_wp2
          go_ret2
          exact ⟨f, er, rfl, HE.out.1, HE.out.2⟩
end Go.Proofs.YtkpmkgkfpikpfaaGreat
