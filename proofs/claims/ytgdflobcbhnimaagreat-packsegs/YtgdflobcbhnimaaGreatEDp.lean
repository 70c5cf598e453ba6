/- What is proved here: the chapter's examples; cut short a header is none. -/
import Derived.Test.YtgdflobcbhnimaaGreatEHr
import Derived.Test.YtgdflobcbhnimaaGreatEWr
import Derived.Test.YtgdflobcbhnimaaGreatESl
import Derived.Test.YtgdflobcbhnimaaGreatEDx
import Derived.Test.YtgdflobcbhnimaaGreatEPb
import Derived.BigQuiet
namespace Go.Proofs.YtgdflobcbhnimaaGreat.E
open Go.RowKit
set_option linter.unusedVariables false
set_option linter.unusedSimpArgs false
set_option maxRecDepth 100000
/-- A new variable of three cells, stored. -/
theorem new3 (w : World) (a b c : Value) : ∃ V W, w.alloc (.cells #[.bool false, .int .u32 0, .slice none 0 0] 37) = V ∧ ((V.setCell ⟨w.heap.size, 0, none⟩ a).setCell ⟨w.heap.size, 1, none⟩ b).setCell ⟨w.heap.size, 2, none⟩ c = W ∧
    (V.cell? ⟨w.heap.size, 0, none⟩ = some (.bool false) ∧ V.cell? ⟨w.heap.size, 1, none⟩ = some (.int .u32 0) ∧ V.cell? ⟨w.heap.size, 2, none⟩ = some (.slice none 0 0)) ∧
    (V.frozen? ⟨w.heap.size, 0, none⟩ = false ∧ V.frozen? ⟨w.heap.size, 1, none⟩ = false ∧ V.frozen? ⟨w.heap.size, 2, none⟩ = false) ∧
    B3 a b c w.heap.size W ∧ Below w.heap.size w W ∧ w.heap.size < W.heap.size := by
  have ev : Z3 w.heap.size (w.alloc (.cells #[.bool false, .int .u32 0, .slice none 0 0] 37)) := World.alloc_heap_new w _
  have i := st3_in ev a b c
  have hb : Below w.heap.size w (w.alloc (.cells #[.bool false, .int .u32 0, .slice none 0 0] 37)) := (Below.refl _ _).alloc (Nat.le_refl _) _
  refine ⟨_, _, rfl, rfl, ev.cells, ⟨ev.frozen 0, ev.frozen 1, ev.frozen 2⟩, i, ((hb.setCell (p := ⟨w.heap.size, 0, none⟩) (Nat.le_refl _) _).setCell (p := ⟨w.heap.size, 1, none⟩) (Nat.le_refl _) _).setCell (p := ⟨w.heap.size, 2, none⟩) (Nat.le_refl _) _, i.lt⟩
end Go.Proofs.YtgdflobcbhnimaaGreat.E
namespace Go.Proofs.YtgdflobcbhnimaaGreat.E
open Go.RowKit
set_option linter.unusedVariables false
set_option linter.unusedSimpArgs false
set_option maxRecDepth 100000
/-- What the document's loop holds. -/
structure PdI (w : World) (N2 B : Nat) (sh : Bool) (en : Nat) (l : L8) (k : Nat) (sa : Option Addr) (sc : Nat) (wr : World) : Prop where
  bw : Below w.heap.size w wr
  z0 : Z3 w.heap.size wr
  e : B3 (.bool sh) (.int .u32 (en : Int)) (.slice sa k sc) N2 wr
  own : OwnG B wr (.slice sa k sc) ((segsAt l (hf l 44)).take k)
  sz : B ≤ wr.heap.size
  o1 : w.heap.size < N2
  o2 : N2 < B
theorem PdI.keep {w wr wr' : World} {N2 B : Nat} {sh : Bool} {en : Nat} {l : L8} {k : Nat} {sa : Option Addr} {sc : Nat} (h : PdI w N2 B sh en l k sa sc wr) (hb : Below wr.heap.size wr wr') : PdI w N2 B sh en l k sa sc wr' :=
  ⟨h.bw.trans (hb.mono h.bw.size), h.z0.keep hb, h.e.keep hb, h.own.keep hb, Nat.le_trans h.sz hb.size, h.o1, h.o2⟩
theorem PdI.next {w wr w2 : World} {N2 B : Nat} {sh : Bool} {en : Nat} {l : L8} {k : Nat} {sa : Option Addr} {sc : Nat} {sv : Value} (h : PdI w N2 B sh en l k sa sc wr) (hk : k < hf l 44) (hg : wr.grownBy w2 (Value.slice sa k sc).ownBlock)
    (ho : OwnG B w2 sv ((segsAt l (hf l 44)).take (k + 1))) : (∃ sa2 sc2, sv = .slice sa2 (k + 1) sc2) ∧ B3 (.bool sh) (.int .u32 (en : Int)) (.slice sa k sc) N2 w2 ∧ ∀ sa2 sc2, sv = .slice sa2 (k + 1) sc2 → PdI w N2 B sh en l (k + 1) sa2 sc2 (w2.setCell ⟨N2, 2, none⟩ sv) := by
  have o1 := h.o1; have o2 := h.o2
  have hge := h.own.ge
  have hb3 : B3 (.bool sh) (.int .u32 (en : Int)) (.slice sa k sc) N2 w2 := h.e.rows hg hge (by omega)
  have hlen : ((segsAt l (hf l 44)).take (k + 1)).length = k + 1 := by rw [List.length_take, segsAt_len]; omega
  refine ⟨?_, hb3, ?_⟩
  · obtain ⟨a, c, e⟩ := ho.shape
    rw [hlen] at e
    exact ⟨a, c, e⟩
  · intro sa2 sc2 e
    subst e
    have hgs := grown_setk w2 N2 2 (.slice sa2 (k + 1) sc2)
    have hbw : Below w.heap.size w w2 := h.bw.grown hg h.bw.size (fun r e => by have := hge r e; omega)
    refine ⟨hbw.grown hgs hbw.size (fun r e => by injection e with e; omega), (h.z0.rows hg hge (by omega)).row hgs (by intro e; injection e with e; omega), ?_, ho.row hgs (by omega), ?_, o1, o2⟩
    · have := blk_set hb3 2 (.slice sa2 (k + 1) sc2)
      simpa [B3] using this
    · have := h.sz
      have := hg.size
      have := hgs.size
      omega
set_option maxHeartbeats 16000000 in
theorem rparse9 (l : L8) (hl : l.length ≤ 1000000) (w : World) :
    Calls Tryz.prog 15 #[.string ⟨l.toArray⟩] w fun e w' => (∃ v, e = .returned (.tuple #[(parF l).val v, .int .i64 (parE l : Int)]) ∧ OwnG w.heap.size w' v (parF l).segs) ∧ Below w.heap.size w w' := by
  obtain ⟨post, hpost⟩ : ∃ p : Ending → World → Prop, p = fun e w' => (∃ v, e = .returned (.tuple #[(parF l).val v, .int .i64 (parE l : Int)]) ∧ OwnG w.heap.size w' v (parF l).segs) ∧ Below w.heap.size w w' := ⟨_, rfl⟩
  rw [← hpost]
  have HER : Hid (∀ w' (k : Nat), parE l = k → k ≠ 0 → Below w.heap.size w w' → post (.returned (.tuple #[.agg #[.bool false, .int .u32 0, .slice none 0 0], .int .i64 (k : Int)])) w') := fun w' k h1 h2 h3 => by
    have hF : parF l = zeroE := by unfold parF; rw [if_neg (by rw [h1]; exact h2)]
    rw [hpost, hF, h1]
    exact ⟨⟨.slice none 0 0, rfl, own_nil _ _⟩, h3⟩
  have HOK : Hid (∀ w' v, parE l = 0 → OwnG w.heap.size w' v (efAt l).segs → Below w.heap.size w w' → post (.returned (.tuple #[.agg #[.bool (efAt l).shared, .int .u32 ((efAt l).entry : Int), v], .int .i64 0])) w') := fun w' v h1 h2 h3 => by
    have hF : parF l = efAt l := by unfold parF; rw [if_pos h1]
    rw [hpost, hF, h1]
    exact ⟨⟨v, rfl, h2⟩, h3⟩
  clear hpost
  obtain ⟨S, hS⟩ : ∃ S : ByteArray, S = ⟨l.toArray⟩ := ⟨_, rfl⟩
  have hSl : S.toList = l := by rw [hS]; exact bal l
  have hsz : S.size = l.length := by rw [← hSl, bt_len]
  obtain ⟨W1, hW1⟩ : ∃ W1, w.alloc (.cells #[.bool false, .int .u32 0, .slice none 0 0] 37) = W1 := ⟨_, rfl⟩
  have zz1 : Z3 w.heap.size W1 := by rw [← hW1]; exact World.alloc_heap_new w _
  have hb1 : Below w.heap.size w W1 := by rw [← hW1]; exact (Below.refl _ _).alloc (Nat.le_refl _) _
  have hz1 : W1.heap.size = w.heap.size + 1 := by rw [← hW1]; simp
  have H1 : Hid (Z3 w.heap.size W1 ∧ Below w.heap.size w W1 ∧ W1.heap.size = w.heap.size + 1) := ⟨zz1, hb1, hz1⟩
  clear zz1 hb1 hz1
  rw [← hS]
  by_cases h52 : l.length < 52
  · have i52 : (S.size : Int) < 52 := by omega
    have HPE : Hid (parE l = 101) := hd_101 h52
    clear hS hSl hsz h52 hl
    go_enter Tryz.func15, Tryz.ntmps15
    have zE := H1.out.1
    have bE := H1.out.2.1
    obtain ⟨e0, e1, e2⟩ := zE.cells
    have g0 := zE.frozen 0
    have g1 := zE.frozen 1
    have g2 := zE.frozen 2
    obtain ⟨W8, hW8⟩ : ∃ z, ((W1.setCell ⟨w.heap.size, 0, none⟩ (.bool false)).setCell ⟨w.heap.size, 1, none⟩ (.int .u32 0)).setCell ⟨w.heap.size, 2, none⟩ (.slice none 0 0) = z := ⟨_, rfl⟩
    have i8 := st3_in zE (.bool false) (.int .u32 0) (.slice none 0 0)
    have g8 := st3_grown W1 w.heap.size (.bool false) (.int .u32 0) (.slice none 0 0)
    rw [show st3 W1 w.heap.size (.bool false) (.int .u32 0) (.slice none 0 0) = W8 from hW8] at i8 g8
    have HE : Hid (post (.returned (.tuple #[.agg #[.bool false, .int .u32 0, .slice none 0 0], .int .i64 101])) W8) := HER.out W8 101 (HPE.out) (by decide) (bE.grown g8 bE.size (fun k e => by injection e with e; omega))
    obtain ⟨s0, s1, s2⟩ := i8.cells
    clear zE bE g8 i8
    go_wp2
    refine bodyPost_ret (v := .tuple #[.agg #[.bool false, .int .u32 0, .slice none 0 0], .int .i64 101]) ?_ rfl HE.out
    rw [results_cell_tmp rfl]; simp [go_sem, s0, s1, s2]
  have i52 : ¬ (S.size : Int) < 52 := by omega
  have n52 : 52 ≤ S.size := by omega
  have hx16 : S.extract 0 16 = ⟨(l.take 16).toArray⟩ := by rw [ext_list, hSl, List.drop_zero]
  cases hm : (l.take 16 == magicL) with
  | false =>
    have t0 : ((S.extract 0 16).toList == [127, 69, 76, 70, 1, 2, 1, 0, 0, 0, 0, 0, 0, 0, 0, 0]) = false := by rw [hx16, bal]; exact hm
    have t1 : ((S.extract 0 16).toList != [127, 69, 76, 70, 1, 2, 1, 0, 0, 0, 0, 0, 0, 0, 0, 0]) = true := by rw [bne, t0]; rfl
    have HPE : Hid (parE l = 102) := hd_102 h52 hm
    clear hS hSl hsz h52 hl hx16
    go_enter Tryz.func15, Tryz.ntmps15
    have zE := H1.out.1
    have bE := H1.out.2.1
    obtain ⟨e0, e1, e2⟩ := zE.cells
    have g0 := zE.frozen 0
    have g1 := zE.frozen 1
    have g2 := zE.frozen 2
    obtain ⟨W8, hW8⟩ : ∃ z, ((W1.setCell ⟨w.heap.size, 0, none⟩ (.bool false)).setCell ⟨w.heap.size, 1, none⟩ (.int .u32 0)).setCell ⟨w.heap.size, 2, none⟩ (.slice none 0 0) = z := ⟨_, rfl⟩
    have i8 := st3_in zE (.bool false) (.int .u32 0) (.slice none 0 0)
    have g8 := st3_grown W1 w.heap.size (.bool false) (.int .u32 0) (.slice none 0 0)
    rw [show st3 W1 w.heap.size (.bool false) (.int .u32 0) (.slice none 0 0) = W8 from hW8] at i8 g8
    have HE : Hid (post (.returned (.tuple #[.agg #[.bool false, .int .u32 0, .slice none 0 0], .int .i64 102])) W8) := HER.out W8 102 (HPE.out) (by decide) (bE.grown g8 bE.size (fun k e => by injection e with e; omega))
    obtain ⟨s0, s1, s2⟩ := i8.cells
    clear zE bE g8 i8
    go_wp2
    refine bodyPost_ret (v := .tuple #[.agg #[.bool false, .int .u32 0, .slice none 0 0], .int .i64 102]) ?_ rfl HE.out
    rw [results_cell_tmp rfl]; simp [go_sem, s0, s1, s2]
  | true =>
  have t0 : ((S.extract 0 16).toList == [127, 69, 76, 70, 1, 2, 1, 0, 0, 0, 0, 0, 0, 0, 0, 0]) = true := by rw [hx16, bal]; exact hm
  have t1 : ((S.extract 0 16).toList != [127, 69, 76, 70, 1, 2, 1, 0, 0, 0, 0, 0, 0, 0, 0, 0]) = false := by rw [bne, t0]; rfl
  have K16 : Hid (∀ w', Calls Tryz.prog 41 #[.string S, .int .i64 16] w' fun e w'' => e = .returned (.int .i64 (hf l 16 : Int)) ∧ w'' = w') := fun w' => by rw [hS]; exact half24 l 16 (by omega) hl w'
  have K44 : Hid (∀ w', Calls Tryz.prog 41 #[.string S, .int .i64 44] w' fun e w'' => e = .returned (.int .i64 (hf l 44 : Int)) ∧ w'' = w') := fun w' => by rw [hS]; exact half24 l 44 (by omega) hl w'
  have K24 : Hid (∀ w', Calls Tryz.prog 42 #[.string S, .int .i64 24] w' fun e w'' => e = .returned (.int .u32 (wd l 24 : Int)) ∧ w'' = w') := fun w' => by rw [hS]; exact word25 l 24 (by omega) hl w'
  obtain ⟨SH, hSH⟩ : ∃ b, b = (hf l 16 == 3) := ⟨_, rfl⟩
  have eSH : ((hf l 16 : Int) == 3) = SH := by rw [hSH, Bool.eq_iff_iff]; simp only [beq_iff_eq]; omega
  obtain ⟨EN, hEN⟩ : ∃ b, b = wd l 24 := ⟨_, rfl⟩
  rw [← hEN] at K24
  obtain ⟨V2, W2, hV2, hW2, ⟨q0, q1, q2⟩, ⟨f0, f1, f2⟩, e2, hb2, hz2⟩ := new3 W1 (.bool SH) (.int .u32 (EN : Int)) (.slice none 0 0)
  have H2 : Hid (Z3 w.heap.size W2 ∧ Below w.heap.size w W2 ∧ B3 (.bool SH) (.int .u32 (EN : Int)) (.slice none 0 0) W1.heap.size W2 ∧ w.heap.size < W1.heap.size) := ⟨H1.out.1.keep hb2, below_tr H1.out.2.1 hb2, e2, by have := H1.out.2.2; omega⟩
  obtain ⟨c0, c1, c2⟩ := e2.cells
  obtain ⟨KD, hKD⟩ : ∃ b, b = hf l 16 := ⟨_, rfl⟩
  obtain ⟨NN, hNN⟩ : ∃ b, b = hf l 44 := ⟨_, rfl⟩
  rw [← hKD] at K16 eSH
  rw [← hNN] at K44
  have hNlt : NN < 65536 := by rw [hNN]; exact hf_lt _ _
  have HLEN : Hid (S.size = l.length ∧ ¬ l.length < 52 ∧ (l.take 16 == magicL) = true ∧ l.length ≤ 1000000) := ⟨hsz, h52, hm, hl⟩
  have HSE : Hid (S = ⟨l.toArray⟩ ∧ KD = hf l 16 ∧ NN = hf l 44 ∧ EN = wd l 24 ∧ SH = (hf l 16 == 3)) := ⟨hS, hKD, hNN, hEN, hSH⟩
  clear e2 hb2 hz2 hx16
  by_cases hK : KD = 2 ∨ KD = 3
  rotate_left
  · have x2 : ((KD : Int) == 2) = false := by rw [beq_eq_false_iff_ne]; intro h; exact hK (Or.inl (by omega))
    have y2 : ((KD : Int) != 2) = true := by rw [bne, x2]; rfl
    have x3 : ((KD : Int) == 3) = false := by rw [beq_eq_false_iff_ne]; intro h; exact hK (Or.inr (by omega))
    have y3 : ((KD : Int) != 3) = true := by rw [bne, x3]; rfl
    have hsf : SH = false := by rw [← eSH]; exact x3
    have HPE : Hid (parE l = 103) := by
      refine hd_103 h52 hm ?_
      cases hfo : formOk l with
      | false => rfl
      | true => rw [hKD] at hK; exact absurd (form_parts hfo).1 hK
    subst hsf
    clear hS hSl hsz h52 hl hK hSH hEN hKD hNN eSH
    go_enter Tryz.func15, Tryz.ntmps15
    go_wp2_with fail
    refine (K16.out W1).mono ?_
    rintro e x1 ⟨rfl, rfl⟩
    go_wp2_with fail
    refine (K44.out x1).mono ?_
    rintro e x2 ⟨rfl, rfl⟩
    go_wp2_with fail
    refine (K24.out x2).mono ?_
    rintro e x3 ⟨rfl, rfl⟩
    have zE := H2.out.1
    have bE := H2.out.2.1
    obtain ⟨e0, e1, e2⟩ := zE.cells
    have g0 := zE.frozen 0
    have g1 := zE.frozen 1
    have g2 := zE.frozen 2
    obtain ⟨W8, hW8⟩ : ∃ z, ((W2.setCell ⟨w.heap.size, 0, none⟩ (.bool false)).setCell ⟨w.heap.size, 1, none⟩ (.int .u32 0)).setCell ⟨w.heap.size, 2, none⟩ (.slice none 0 0) = z := ⟨_, rfl⟩
    have i8 := st3_in zE (.bool false) (.int .u32 0) (.slice none 0 0)
    have g8 := st3_grown W2 w.heap.size (.bool false) (.int .u32 0) (.slice none 0 0)
    rw [show st3 W2 w.heap.size (.bool false) (.int .u32 0) (.slice none 0 0) = W8 from hW8] at i8 g8
    have HE : Hid (post (.returned (.tuple #[.agg #[.bool false, .int .u32 0, .slice none 0 0], .int .i64 103])) W8) := HER.out W8 103 (HPE.out) (by decide) (bE.grown g8 bE.size (fun k e => by injection e with e; omega))
    obtain ⟨s0, s1, s2⟩ := i8.cells
    clear zE bE g8 i8
    go_wp2
    refine bodyPost_ret (v := .tuple #[.agg #[.bool false, .int .u32 0, .slice none 0 0], .int .i64 103]) ?_ rfl HE.out
    rw [results_cell_tmp rfl]; simp [go_sem, s0, s1, s2]
  have hki : (((KD : Int) != 2) = false) ∨ (((KD : Int) != 2) = true ∧ ((KD : Int) != 3) = false) := by
    rcases hK with h | h
    · exact Or.inl (by rw [h]; rfl)
    · exact Or.inr ⟨by rw [h]; rfl, by rw [h]; rfl⟩
  by_cases hN : NN ≤ 16
  rotate_left
  · have d16 : (16 : Int) < (NN : Int) := by omega
    have HPE : Hid (parE l = 103) := by
      refine hd_103 h52 hm ?_
      cases hfo : formOk l with
      | false => rfl
      | true => rw [hNN] at hN; exact absurd (form_parts hfo).2.2.2.1 hN
    clear hS hSl hsz h52 hl hK hSH hEN hKD hNN hN
    rcases hki with y2 | ⟨y2, y3⟩
    · go_enter Tryz.func15, Tryz.ntmps15
      go_wp2_with fail
      refine (K16.out W1).mono ?_
      rintro e x1 ⟨rfl, rfl⟩
      go_wp2_with fail
      refine (K44.out x1).mono ?_
      rintro e x2 ⟨rfl, rfl⟩
      go_wp2_with fail
      refine (K24.out x2).mono ?_
      rintro e x3 ⟨rfl, rfl⟩
      have zE := H2.out.1
      have bE := H2.out.2.1
      obtain ⟨e0, e1, e2⟩ := zE.cells
      have g0 := zE.frozen 0
      have g1 := zE.frozen 1
      have g2 := zE.frozen 2
      obtain ⟨W8, hW8⟩ : ∃ z, ((W2.setCell ⟨w.heap.size, 0, none⟩ (.bool false)).setCell ⟨w.heap.size, 1, none⟩ (.int .u32 0)).setCell ⟨w.heap.size, 2, none⟩ (.slice none 0 0) = z := ⟨_, rfl⟩
      have i8 := st3_in zE (.bool false) (.int .u32 0) (.slice none 0 0)
      have g8 := st3_grown W2 w.heap.size (.bool false) (.int .u32 0) (.slice none 0 0)
      rw [show st3 W2 w.heap.size (.bool false) (.int .u32 0) (.slice none 0 0) = W8 from hW8] at i8 g8
      have HE : Hid (post (.returned (.tuple #[.agg #[.bool false, .int .u32 0, .slice none 0 0], .int .i64 103])) W8) := HER.out W8 103 (HPE.out) (by decide) (bE.grown g8 bE.size (fun k e => by injection e with e; omega))
      obtain ⟨s0, s1, s2⟩ := i8.cells
      clear zE bE g8 i8
      go_wp2
      refine bodyPost_ret (v := .tuple #[.agg #[.bool false, .int .u32 0, .slice none 0 0], .int .i64 103]) ?_ rfl HE.out
      rw [results_cell_tmp rfl]; simp [go_sem, s0, s1, s2]
    · go_enter Tryz.func15, Tryz.ntmps15
      go_wp2_with fail
      refine (K16.out W1).mono ?_
      rintro e x1 ⟨rfl, rfl⟩
      go_wp2_with fail
      refine (K44.out x1).mono ?_
      rintro e x2 ⟨rfl, rfl⟩
      go_wp2_with fail
      refine (K24.out x2).mono ?_
      rintro e x3 ⟨rfl, rfl⟩
      have zE := H2.out.1
      have bE := H2.out.2.1
      obtain ⟨e0, e1, e2⟩ := zE.cells
      have g0 := zE.frozen 0
      have g1 := zE.frozen 1
      have g2 := zE.frozen 2
      obtain ⟨W8, hW8⟩ : ∃ z, ((W2.setCell ⟨w.heap.size, 0, none⟩ (.bool false)).setCell ⟨w.heap.size, 1, none⟩ (.int .u32 0)).setCell ⟨w.heap.size, 2, none⟩ (.slice none 0 0) = z := ⟨_, rfl⟩
      have i8 := st3_in zE (.bool false) (.int .u32 0) (.slice none 0 0)
      have g8 := st3_grown W2 w.heap.size (.bool false) (.int .u32 0) (.slice none 0 0)
      rw [show st3 W2 w.heap.size (.bool false) (.int .u32 0) (.slice none 0 0) = W8 from hW8] at i8 g8
      have HE : Hid (post (.returned (.tuple #[.agg #[.bool false, .int .u32 0, .slice none 0 0], .int .i64 103])) W8) := HER.out W8 103 (HPE.out) (by decide) (bE.grown g8 bE.size (fun k e => by injection e with e; omega))
      obtain ⟨s0, s1, s2⟩ := i8.cells
      clear zE bE g8 i8
      go_wp2
      refine bodyPost_ret (v := .tuple #[.agg #[.bool false, .int .u32 0, .slice none 0 0], .int .i64 103]) ?_ rfl HE.out
      rw [results_cell_tmp rfl]; simp [go_sem, s0, s1, s2]
  obtain ⟨X, hX⟩ : ∃ X : ByteArray, X = ⟨(headB (cmpE l)).toArray⟩ := ⟨_, rfl⟩
  have zX : X.size = 52 := by rw [hX]; show (headB (cmpE l)).toArray.size = 52; simp [headB_len]
  have KX := rwrite16 (cmpE l) (.slice none 0 0) W2 (SlG.nil _) (by intro g hg; simp [cmpE] at hg) (by show wd l 24 < _; exact wd_lt _ _) (by simp [cmpE])
  rw [cmp_wr, ← hX] at KX
  have KX : Calls Tryz.prog 34 #[.agg #[.bool SH, .int .u32 (EN : Int), .slice none 0 0]] W2 fun r w' => r = .returned (.string X) ∧ Below W2.heap.size W2 w' := by rw [hSH, hEN]; exact KX
  obtain ⟨B1, hB1⟩ : ∃ b, b = (midL l == midL (headB (cmpE l))) := ⟨_, rfl⟩
  obtain ⟨B2, hB2⟩ : ∃ b, b = (finL l == finL (headB (cmpE l))) := ⟨_, rfl⟩
  have hform : formOk l = (B1 && B2) := by rw [hB1, hB2]; exact cmp_form l (by omega) (by rw [← hKD]; exact hK) (by rw [← hNN]; exact hN)
  have hXl : X.toList = headB (cmpE l) := by rw [hX]; exact bal _
  have xm : ∀ (T : ByteArray) (y : L8), T.toList = y → (T.extract 16 44).toList = midL y ∧ (T.extract 46 52).toList = finL y := fun T y h => by
    constructor
    · rw [ext_list, bal, h]
      unfold midL
      rw [List.drop_take]
    · rw [ext_list, bal, h]
      unfold finL
      rw [List.drop_take]
  have u1 : ((S.extract 16 44).toList == (X.extract 16 44).toList) = B1 := by rw [(xm S l hSl).1, (xm X _ hXl).1, hB1]
  have u2 : ((S.extract 46 52).toList == (X.extract 46 52).toList) = B2 := by rw [(xm S l hSl).2, (xm X _ hXl).2, hB2]
  have v1 : ((S.extract 16 44).toList != (X.extract 16 44).toList) = !B1 := by rw [bne, u1]
  have v2 : ((S.extract 46 52).toList != (X.extract 46 52).toList) = !B2 := by rw [bne, u2]
  have slx : ∀ (T : ByteArray) (a b : Nat) W', a ≤ b → b ≤ T.size → (Instr.slice 9 (.string T) (some (.int .i64 (a : Int))) (some (.int .i64 (b : Int))) none).run Tryz.prog W' = .ok (.string (T.extract a b)) W' := fun T a b W' h1 h2 => by
    rw [run_slice_string W' 9 T .i64 .i64 (a : Int) (b : Int) Tryz.underlying9 (by omega) (by omega) (by omega)]
    congr 3
  have sl1 : ∀ W', (Instr.slice 9 (.string S) (some (.int .i64 16)) (some (.int .i64 44)) none).run Tryz.prog W' = .ok (.string (S.extract 16 44)) W' := fun W' => slx S 16 44 W' (by decide) (by omega)
  have sl2 : ∀ W', (Instr.slice 9 (.string X) (some (.int .i64 16)) (some (.int .i64 44)) none).run Tryz.prog W' = .ok (.string (X.extract 16 44)) W' := fun W' => slx X 16 44 W' (by decide) (by omega)
  have sl3 : ∀ W', (Instr.slice 9 (.string S) (some (.int .i64 46)) (some (.int .i64 52)) none).run Tryz.prog W' = .ok (.string (S.extract 46 52)) W' := fun W' => slx S 46 52 W' (by decide) (by omega)
  have sl4 : ∀ W', (Instr.slice 9 (.string X) (some (.int .i64 46)) (some (.int .i64 52)) none).run Tryz.prog W' = .ok (.string (X.extract 46 52)) W' := fun W' => slx X 46 52 W' (by decide) (by omega)
  have n52' : (S.size : Int) ≤ 1000000 := by omega
  have d16 : ¬ (16 : Int) < (NN : Int) := by omega
  have HES : Hid ((efAt l).segs = segsAt l (hf l 44) ∧ (efAt l).shared = SH ∧ (efAt l).entry = EN) := ⟨rfl, by rw [hSH]; rfl, by rw [hEN]; rfl⟩
  have HFO : Hid (formOk l = (B1 && B2)) := hform
  have KWD : Hid (∀ (k d : Nat) w', k < NN → 52 + 32 * NN ≤ l.length → d + 4 ≤ 32 → Calls Tryz.prog 42 #[.string S, .int .i64 ((52 + 32 * k + d : Nat) : Int)] w' fun e w'' => e = .returned (.int .u32 (wd (l.drop (52 + 32 * k)) d : Int)) ∧ w'' = w') := fun k d w' h1 h2 h3 => by
    rw [hS, wd_drop]
    exact word25 l (52 + 32 * k + d) (by omega) hl w'
  generalize S.extract 16 44 = XA at u1 v1 sl1
  generalize X.extract 16 44 = XB at u1 v1 sl2
  generalize S.extract 46 52 = XC at u2 v2 sl3
  generalize X.extract 46 52 = XD at u2 v2 sl4
  clear hS hSl hsz hl hK hSH hEN hKD hNN hX hB1 hB2 hform hXl xm h52 hm slx
  rcases hki with y2 | ⟨y2, y3⟩
  · go_enter Tryz.func15, Tryz.ntmps15
    go_wp2_with fail
    refine (K16.out W1).mono ?_
    rintro e x1 ⟨rfl, rfl⟩
    go_wp2_with fail
    refine (K44.out x1).mono ?_
    rintro e x2 ⟨rfl, rfl⟩
    go_wp2_with fail
    refine (K24.out x2).mono ?_
    rintro e x3 ⟨rfl, rfl⟩
    go_wp2_with fail
    refine KX.mono ?_
    rintro e w3 ⟨rfl, hb3⟩
    clear KX q0 q1 q2 f0 f1 f2 hV2 hW2 c0 c1 c2 hW1
    have H3 : Hid (Z3 w.heap.size w3 ∧ Below w.heap.size w w3 ∧ B3 (.bool SH) (.int .u32 (EN : Int)) (.slice none 0 0) x3.heap.size w3 ∧ w.heap.size < x3.heap.size) := ⟨H2.out.1.keep hb3, H2.out.2.1.trans (hb3.mono H2.out.2.1.size), H2.out.2.2.1.keep hb3, H2.out.2.2.2⟩
    clear hb3
    cases hB1 : B1 with
    | false =>
      rw [hB1] at u1 v1 HFO
      have v1 : (XA.toList != XB.toList) = true := v1
      have HPE : Hid (parE l = 103) := hd_103 HLEN.out.2.1 HLEN.out.2.2.1 HFO.out
      go_wp2
      refine wp_region_slots (R := Ext) [⟨44, fun v _ => v = .string S, fun _ _ _ _ h => h⟩, ⟨45, fun v _ => v = .string XA, fun _ _ _ _ h => h⟩, ⟨46, fun v _ => v = .string X, fun _ _ _ _ h => h⟩, ⟨47, fun v _ => v = .string XB, fun _ _ _ _ h => h⟩, ⟨48, fun v _ => v = .bool true, fun _ _ _ _ h => h⟩, ⟨49, fun v _ => v = .bool true, fun _ _ _ _ h => h⟩, ⟨55, fun v _ => v = .bool true, fun _ _ _ _ h => h⟩] _ (by kernel_rfl) rfl (by kernel_rfl) (Below.drew (Below.refl _ _)) (fun _ _ _ h1 h2 => below_tr h1 h2) (fun QQ => ⟨?_, ?_, ?_, ?_, ?_, ?_, ?_, ?_, ?_, ?_, ?_, ?_, trivial⟩) (fun f wy hR hf => ?_)
      · intro A wx hR hout hdep K hK
        have h0 : A.tmps[0]?.getD undef = .string S := hout 0 (by kernel_rfl)
        refine if_yes (by kernel_rfl) ?_
        simp [go_sem, h0, sl1, sl2, sl3, sl4, u1, u2, v1, v2]
        exact hK.out _ _ (Below.refl _ _) rfl
      · intro A wx hR hout hdep K hK
        have h44 : A.tmps[44]?.getD undef = .string S := hdep 44 (by kernel_rfl)
        refine if_yes (by kernel_rfl) ?_
        simp [go_sem, h44, sl1, sl2, sl3, sl4, u1, u2, v1, v2]
        exact hK.out _ _ (Below.refl _ _) rfl
      · intro A wx hR hout hdep K hK
        have h7 : A.tmps[7]?.getD undef = .string X := hout 7 (by kernel_rfl)
        refine if_yes (by kernel_rfl) ?_
        simp [go_sem, h7, sl1, sl2, sl3, sl4, u1, u2, v1, v2]
        exact hK.out _ _ (Below.refl _ _) rfl
      · intro A wx hR hout hdep K hK
        have h46 : A.tmps[46]?.getD undef = .string X := hdep 46 (by kernel_rfl)
        refine if_yes (by kernel_rfl) ?_
        simp [go_sem, h46, sl1, sl2, sl3, sl4, u1, u2, v1, v2]
        exact hK.out _ _ (Below.refl _ _) rfl
      · intro A wx hR hout hdep K hK
        have h45 : A.tmps[45]?.getD undef = .string XA := hdep 45 (by kernel_rfl)
        have h47 : A.tmps[47]?.getD undef = .string XB := hdep 47 (by kernel_rfl)
        refine if_yes (by kernel_rfl) ?_
        simp [go_sem, h45, h47, sl1, sl2, sl3, sl4, u1, u2, v1, v2]
        exact hK.out _ _ (Below.refl _ _) rfl
      · intro A wx hR hout hdep K hK
        have h48 : A.tmps[48]?.getD undef = .bool true := hdep 48 (by kernel_rfl)
        refine if_yes (by kernel_rfl) ?_
        simp [go_sem, h48, sl1, sl2, sl3, sl4, u1, u2, v1, v2]
        exact hK.out _ _ (Below.refl _ _) rfl
      · intro A wx hR hout hdep K hK
        have h0 : A.tmps[0]?.getD undef = .string S := hout 0 (by kernel_rfl)
        have h49 : A.tmps[49]?.getD undef = .bool true := hdep 49 (by kernel_rfl)
        refine if_not (by rw [wanted_is (j := 5) (b := false) (by kernel_rfl) (by kernel_rfl) h49]; decide) ?_
        exact hK.out _ _ (Below.refl _ _) trivial
      · intro A wx hR hout hdep K hK
        have h49 : A.tmps[49]?.getD undef = .bool true := hdep 49 (by kernel_rfl)
        refine if_not (by rw [wanted_is (j := 5) (b := false) (by kernel_rfl) (by kernel_rfl) h49]; decide) ?_
        exact hK.out _ _ (Below.refl _ _) trivial
      · intro A wx hR hout hdep K hK
        have h7 : A.tmps[7]?.getD undef = .string X := hout 7 (by kernel_rfl)
        have h49 : A.tmps[49]?.getD undef = .bool true := hdep 49 (by kernel_rfl)
        refine if_not (by rw [wanted_is (j := 5) (b := false) (by kernel_rfl) (by kernel_rfl) h49]; decide) ?_
        exact hK.out _ _ (Below.refl _ _) trivial
      · intro A wx hR hout hdep K hK
        have h49 : A.tmps[49]?.getD undef = .bool true := hdep 49 (by kernel_rfl)
        refine if_not (by rw [wanted_is (j := 5) (b := false) (by kernel_rfl) (by kernel_rfl) h49]; decide) ?_
        exact hK.out _ _ (Below.refl _ _) trivial
      · intro A wx hR hout hdep K hK
        have h49 : A.tmps[49]?.getD undef = .bool true := hdep 49 (by kernel_rfl)
        refine if_not (by rw [wanted_is (j := 5) (b := false) (by kernel_rfl) (by kernel_rfl) h49]; decide) ?_
        exact hK.out _ _ (Below.refl _ _) trivial
      · intro A wx hR hout hdep K hK
        have h49 : A.tmps[49]?.getD undef = .bool true := hdep 49 (by kernel_rfl)
        refine if_yes (by kernel_rfl) ?_
        simp [go_sem, h49, sl1, sl2, sl3, sl4, u1, u2, v1, v2]
        exact hK.out _ _ (Below.refl _ _) rfl
      have h55 : f 55 = .bool true := hf 55 (by kernel_rfl)
      simp only [putSl, Act.put, List.setIfInBounds_toArray, List.set_cons_zero, List.set_cons_succ, h55]
      have z4 := H3.out.1.keep hR
      have b4 := H3.out.2.1.trans (hR.mono H3.out.2.1.size)
      clear hR hf h55
      generalize wy = w4 at z4 b4 ⊢
      have zE := z4
      have bE := b4
      obtain ⟨e0, e1, e2⟩ := zE.cells
      have g0 := zE.frozen 0
      have g1 := zE.frozen 1
      have g2 := zE.frozen 2
      obtain ⟨W8, hW8⟩ : ∃ z, ((w4.setCell ⟨w.heap.size, 0, none⟩ (.bool false)).setCell ⟨w.heap.size, 1, none⟩ (.int .u32 0)).setCell ⟨w.heap.size, 2, none⟩ (.slice none 0 0) = z := ⟨_, rfl⟩
      have i8 := st3_in zE (.bool false) (.int .u32 0) (.slice none 0 0)
      have g8 := st3_grown w4 w.heap.size (.bool false) (.int .u32 0) (.slice none 0 0)
      rw [show st3 w4 w.heap.size (.bool false) (.int .u32 0) (.slice none 0 0) = W8 from hW8] at i8 g8
      have HE : Hid (post (.returned (.tuple #[.agg #[.bool false, .int .u32 0, .slice none 0 0], .int .i64 103])) W8) := HER.out W8 103 (HPE.out) (by decide) (bE.grown g8 bE.size (fun k e => by injection e with e; omega))
      obtain ⟨s0, s1, s2⟩ := i8.cells
      clear zE bE g8 i8 z4 b4
      go_wp2
      refine bodyPost_ret (v := .tuple #[.agg #[.bool false, .int .u32 0, .slice none 0 0], .int .i64 103]) ?_ rfl HE.out
      rw [results_cell_tmp rfl]; simp [go_sem, s0, s1, s2]
    | true =>
    rw [hB1] at u1 v1 HFO
    have v1 : (XA.toList != XB.toList) = false := v1
    cases hB2 : B2 with
    | false =>
      rw [hB2] at u2 v2 HFO
      have v2 : (XC.toList != XD.toList) = true := v2
      have HPE : Hid (parE l = 103) := hd_103 HLEN.out.2.1 HLEN.out.2.2.1 HFO.out
      go_wp2
      refine wp_region_slots (R := Ext) [⟨44, fun v _ => v = .string S, fun _ _ _ _ h => h⟩, ⟨45, fun v _ => v = .string XA, fun _ _ _ _ h => h⟩, ⟨46, fun v _ => v = .string X, fun _ _ _ _ h => h⟩, ⟨47, fun v _ => v = .string XB, fun _ _ _ _ h => h⟩, ⟨48, fun v _ => v = .bool false, fun _ _ _ _ h => h⟩, ⟨49, fun v _ => v = .bool false, fun _ _ _ _ h => h⟩, ⟨50, fun v _ => v = .string S, fun _ _ _ _ h => h⟩, ⟨51, fun v _ => v = .string XC, fun _ _ _ _ h => h⟩, ⟨52, fun v _ => v = .string X, fun _ _ _ _ h => h⟩, ⟨53, fun v _ => v = .string XD, fun _ _ _ _ h => h⟩, ⟨54, fun v _ => v = .bool true, fun _ _ _ _ h => h⟩, ⟨55, fun v _ => v = .bool true, fun _ _ _ _ h => h⟩] _ (by kernel_rfl) rfl (by kernel_rfl) (Below.drew (Below.refl _ _)) (fun _ _ _ h1 h2 => below_tr h1 h2) (fun QQ => ⟨?_, ?_, ?_, ?_, ?_, ?_, ?_, ?_, ?_, ?_, ?_, ?_, trivial⟩) (fun f wy hR hf => ?_)
      · intro A wx hR hout hdep K hK
        have h0 : A.tmps[0]?.getD undef = .string S := hout 0 (by kernel_rfl)
        refine if_yes (by kernel_rfl) ?_
        simp [go_sem, h0, sl1, sl2, sl3, sl4, u1, u2, v1, v2]
        exact hK.out _ _ (Below.refl _ _) rfl
      · intro A wx hR hout hdep K hK
        have h44 : A.tmps[44]?.getD undef = .string S := hdep 44 (by kernel_rfl)
        refine if_yes (by kernel_rfl) ?_
        simp [go_sem, h44, sl1, sl2, sl3, sl4, u1, u2, v1, v2]
        exact hK.out _ _ (Below.refl _ _) rfl
      · intro A wx hR hout hdep K hK
        have h7 : A.tmps[7]?.getD undef = .string X := hout 7 (by kernel_rfl)
        refine if_yes (by kernel_rfl) ?_
        simp [go_sem, h7, sl1, sl2, sl3, sl4, u1, u2, v1, v2]
        exact hK.out _ _ (Below.refl _ _) rfl
      · intro A wx hR hout hdep K hK
        have h46 : A.tmps[46]?.getD undef = .string X := hdep 46 (by kernel_rfl)
        refine if_yes (by kernel_rfl) ?_
        simp [go_sem, h46, sl1, sl2, sl3, sl4, u1, u2, v1, v2]
        exact hK.out _ _ (Below.refl _ _) rfl
      · intro A wx hR hout hdep K hK
        have h45 : A.tmps[45]?.getD undef = .string XA := hdep 45 (by kernel_rfl)
        have h47 : A.tmps[47]?.getD undef = .string XB := hdep 47 (by kernel_rfl)
        refine if_yes (by kernel_rfl) ?_
        simp [go_sem, h45, h47, sl1, sl2, sl3, sl4, u1, u2, v1, v2]
        exact hK.out _ _ (Below.refl _ _) rfl
      · intro A wx hR hout hdep K hK
        have h48 : A.tmps[48]?.getD undef = .bool false := hdep 48 (by kernel_rfl)
        refine if_yes (by kernel_rfl) ?_
        simp [go_sem, h48, sl1, sl2, sl3, sl4, u1, u2, v1, v2]
        exact hK.out _ _ (Below.refl _ _) rfl
      · intro A wx hR hout hdep K hK
        have h0 : A.tmps[0]?.getD undef = .string S := hout 0 (by kernel_rfl)
        have h49 : A.tmps[49]?.getD undef = .bool false := hdep 49 (by kernel_rfl)
        refine if_yes ((wanted_is (j := 5) (b := false) (by kernel_rfl) (by kernel_rfl) h49).trans rfl) ?_
        simp [go_sem, h0, sl1, sl2, sl3, sl4, u1, u2, v1, v2]
        exact hK.out _ _ (Below.refl _ _) rfl
      · intro A wx hR hout hdep K hK
        have h50 : A.tmps[50]?.getD undef = .string S := hdep 50 (by kernel_rfl)
        have h49 : A.tmps[49]?.getD undef = .bool false := hdep 49 (by kernel_rfl)
        refine if_yes ((wanted_is (j := 5) (b := false) (by kernel_rfl) (by kernel_rfl) h49).trans rfl) ?_
        simp [go_sem, h50, sl1, sl2, sl3, sl4, u1, u2, v1, v2]
        exact hK.out _ _ (Below.refl _ _) rfl
      · intro A wx hR hout hdep K hK
        have h7 : A.tmps[7]?.getD undef = .string X := hout 7 (by kernel_rfl)
        have h49 : A.tmps[49]?.getD undef = .bool false := hdep 49 (by kernel_rfl)
        refine if_yes ((wanted_is (j := 5) (b := false) (by kernel_rfl) (by kernel_rfl) h49).trans rfl) ?_
        simp [go_sem, h7, sl1, sl2, sl3, sl4, u1, u2, v1, v2]
        exact hK.out _ _ (Below.refl _ _) rfl
      · intro A wx hR hout hdep K hK
        have h52 : A.tmps[52]?.getD undef = .string X := hdep 52 (by kernel_rfl)
        have h49 : A.tmps[49]?.getD undef = .bool false := hdep 49 (by kernel_rfl)
        refine if_yes ((wanted_is (j := 5) (b := false) (by kernel_rfl) (by kernel_rfl) h49).trans rfl) ?_
        simp [go_sem, h52, sl1, sl2, sl3, sl4, u1, u2, v1, v2]
        exact hK.out _ _ (Below.refl _ _) rfl
      · intro A wx hR hout hdep K hK
        have h51 : A.tmps[51]?.getD undef = .string XC := hdep 51 (by kernel_rfl)
        have h53 : A.tmps[53]?.getD undef = .string XD := hdep 53 (by kernel_rfl)
        have h49 : A.tmps[49]?.getD undef = .bool false := hdep 49 (by kernel_rfl)
        refine if_yes ((wanted_is (j := 5) (b := false) (by kernel_rfl) (by kernel_rfl) h49).trans rfl) ?_
        simp [go_sem, h51, h53, sl1, sl2, sl3, sl4, u1, u2, v1, v2]
        exact hK.out _ _ (Below.refl _ _) rfl
      · intro A wx hR hout hdep K hK
        have h49 : A.tmps[49]?.getD undef = .bool false := hdep 49 (by kernel_rfl)
        have h54 : A.tmps[54]?.getD undef = .bool true := hdep 54 (by kernel_rfl)
        refine if_yes (by kernel_rfl) ?_
        simp [go_sem, h49, h54, sl1, sl2, sl3, sl4, u1, u2, v1, v2]
        exact hK.out _ _ (Below.refl _ _) rfl
      have h55 : f 55 = .bool true := hf 55 (by kernel_rfl)
      simp only [putSl, Act.put, List.setIfInBounds_toArray, List.set_cons_zero, List.set_cons_succ, h55]
      have z4 := H3.out.1.keep hR
      have b4 := H3.out.2.1.trans (hR.mono H3.out.2.1.size)
      clear hR hf h55
      generalize wy = w4 at z4 b4 ⊢
      have zE := z4
      have bE := b4
      obtain ⟨e0, e1, e2⟩ := zE.cells
      have g0 := zE.frozen 0
      have g1 := zE.frozen 1
      have g2 := zE.frozen 2
      obtain ⟨W8, hW8⟩ : ∃ z, ((w4.setCell ⟨w.heap.size, 0, none⟩ (.bool false)).setCell ⟨w.heap.size, 1, none⟩ (.int .u32 0)).setCell ⟨w.heap.size, 2, none⟩ (.slice none 0 0) = z := ⟨_, rfl⟩
      have i8 := st3_in zE (.bool false) (.int .u32 0) (.slice none 0 0)
      have g8 := st3_grown w4 w.heap.size (.bool false) (.int .u32 0) (.slice none 0 0)
      rw [show st3 w4 w.heap.size (.bool false) (.int .u32 0) (.slice none 0 0) = W8 from hW8] at i8 g8
      have HE : Hid (post (.returned (.tuple #[.agg #[.bool false, .int .u32 0, .slice none 0 0], .int .i64 103])) W8) := HER.out W8 103 (HPE.out) (by decide) (bE.grown g8 bE.size (fun k e => by injection e with e; omega))
      obtain ⟨s0, s1, s2⟩ := i8.cells
      clear zE bE g8 i8 z4 b4
      go_wp2
      refine bodyPost_ret (v := .tuple #[.agg #[.bool false, .int .u32 0, .slice none 0 0], .int .i64 103]) ?_ rfl HE.out
      rw [results_cell_tmp rfl]; simp [go_sem, s0, s1, s2]
    | true =>
    rw [hB2] at u2 v2 HFO
    have v2 : (XC.toList != XD.toList) = false := v2
    have HFO : Hid (formOk l = true) := HFO
    go_wp2
    refine wp_region_slots (R := Ext) [⟨44, fun v _ => v = .string S, fun _ _ _ _ h => h⟩, ⟨45, fun v _ => v = .string XA, fun _ _ _ _ h => h⟩, ⟨46, fun v _ => v = .string X, fun _ _ _ _ h => h⟩, ⟨47, fun v _ => v = .string XB, fun _ _ _ _ h => h⟩, ⟨48, fun v _ => v = .bool false, fun _ _ _ _ h => h⟩, ⟨49, fun v _ => v = .bool false, fun _ _ _ _ h => h⟩, ⟨50, fun v _ => v = .string S, fun _ _ _ _ h => h⟩, ⟨51, fun v _ => v = .string XC, fun _ _ _ _ h => h⟩, ⟨52, fun v _ => v = .string X, fun _ _ _ _ h => h⟩, ⟨53, fun v _ => v = .string XD, fun _ _ _ _ h => h⟩, ⟨54, fun v _ => v = .bool false, fun _ _ _ _ h => h⟩, ⟨55, fun v _ => v = .bool false, fun _ _ _ _ h => h⟩] _ (by kernel_rfl) rfl (by kernel_rfl) (Below.drew (Below.refl _ _)) (fun _ _ _ h1 h2 => below_tr h1 h2) (fun QQ => ⟨?_, ?_, ?_, ?_, ?_, ?_, ?_, ?_, ?_, ?_, ?_, ?_, trivial⟩) (fun f wy hR hf => ?_)
    · intro A wx hR hout hdep K hK
      have h0 : A.tmps[0]?.getD undef = .string S := hout 0 (by kernel_rfl)
      refine if_yes (by kernel_rfl) ?_
      simp [go_sem, h0, sl1, sl2, sl3, sl4, u1, u2, v1, v2]
      exact hK.out _ _ (Below.refl _ _) rfl
    · intro A wx hR hout hdep K hK
      have h44 : A.tmps[44]?.getD undef = .string S := hdep 44 (by kernel_rfl)
      refine if_yes (by kernel_rfl) ?_
      simp [go_sem, h44, sl1, sl2, sl3, sl4, u1, u2, v1, v2]
      exact hK.out _ _ (Below.refl _ _) rfl
    · intro A wx hR hout hdep K hK
      have h7 : A.tmps[7]?.getD undef = .string X := hout 7 (by kernel_rfl)
      refine if_yes (by kernel_rfl) ?_
      simp [go_sem, h7, sl1, sl2, sl3, sl4, u1, u2, v1, v2]
      exact hK.out _ _ (Below.refl _ _) rfl
    · intro A wx hR hout hdep K hK
      have h46 : A.tmps[46]?.getD undef = .string X := hdep 46 (by kernel_rfl)
      refine if_yes (by kernel_rfl) ?_
      simp [go_sem, h46, sl1, sl2, sl3, sl4, u1, u2, v1, v2]
      exact hK.out _ _ (Below.refl _ _) rfl
    · intro A wx hR hout hdep K hK
      have h45 : A.tmps[45]?.getD undef = .string XA := hdep 45 (by kernel_rfl)
      have h47 : A.tmps[47]?.getD undef = .string XB := hdep 47 (by kernel_rfl)
      refine if_yes (by kernel_rfl) ?_
      simp [go_sem, h45, h47, sl1, sl2, sl3, sl4, u1, u2, v1, v2]
      exact hK.out _ _ (Below.refl _ _) rfl
    · intro A wx hR hout hdep K hK
      have h48 : A.tmps[48]?.getD undef = .bool false := hdep 48 (by kernel_rfl)
      refine if_yes (by kernel_rfl) ?_
      simp [go_sem, h48, sl1, sl2, sl3, sl4, u1, u2, v1, v2]
      exact hK.out _ _ (Below.refl _ _) rfl
    · intro A wx hR hout hdep K hK
      have h0 : A.tmps[0]?.getD undef = .string S := hout 0 (by kernel_rfl)
      have h49 : A.tmps[49]?.getD undef = .bool false := hdep 49 (by kernel_rfl)
      refine if_yes ((wanted_is (j := 5) (b := false) (by kernel_rfl) (by kernel_rfl) h49).trans rfl) ?_
      simp [go_sem, h0, sl1, sl2, sl3, sl4, u1, u2, v1, v2]
      exact hK.out _ _ (Below.refl _ _) rfl
    · intro A wx hR hout hdep K hK
      have h50 : A.tmps[50]?.getD undef = .string S := hdep 50 (by kernel_rfl)
      have h49 : A.tmps[49]?.getD undef = .bool false := hdep 49 (by kernel_rfl)
      refine if_yes ((wanted_is (j := 5) (b := false) (by kernel_rfl) (by kernel_rfl) h49).trans rfl) ?_
      simp [go_sem, h50, sl1, sl2, sl3, sl4, u1, u2, v1, v2]
      exact hK.out _ _ (Below.refl _ _) rfl
    · intro A wx hR hout hdep K hK
      have h7 : A.tmps[7]?.getD undef = .string X := hout 7 (by kernel_rfl)
      have h49 : A.tmps[49]?.getD undef = .bool false := hdep 49 (by kernel_rfl)
      refine if_yes ((wanted_is (j := 5) (b := false) (by kernel_rfl) (by kernel_rfl) h49).trans rfl) ?_
      simp [go_sem, h7, sl1, sl2, sl3, sl4, u1, u2, v1, v2]
      exact hK.out _ _ (Below.refl _ _) rfl
    · intro A wx hR hout hdep K hK
      have h52 : A.tmps[52]?.getD undef = .string X := hdep 52 (by kernel_rfl)
      have h49 : A.tmps[49]?.getD undef = .bool false := hdep 49 (by kernel_rfl)
      refine if_yes ((wanted_is (j := 5) (b := false) (by kernel_rfl) (by kernel_rfl) h49).trans rfl) ?_
      simp [go_sem, h52, sl1, sl2, sl3, sl4, u1, u2, v1, v2]
      exact hK.out _ _ (Below.refl _ _) rfl
    · intro A wx hR hout hdep K hK
      have h51 : A.tmps[51]?.getD undef = .string XC := hdep 51 (by kernel_rfl)
      have h53 : A.tmps[53]?.getD undef = .string XD := hdep 53 (by kernel_rfl)
      have h49 : A.tmps[49]?.getD undef = .bool false := hdep 49 (by kernel_rfl)
      refine if_yes ((wanted_is (j := 5) (b := false) (by kernel_rfl) (by kernel_rfl) h49).trans rfl) ?_
      simp [go_sem, h51, h53, sl1, sl2, sl3, sl4, u1, u2, v1, v2]
      exact hK.out _ _ (Below.refl _ _) rfl
    · intro A wx hR hout hdep K hK
      have h49 : A.tmps[49]?.getD undef = .bool false := hdep 49 (by kernel_rfl)
      have h54 : A.tmps[54]?.getD undef = .bool false := hdep 54 (by kernel_rfl)
      refine if_yes (by kernel_rfl) ?_
      simp [go_sem, h49, h54, sl1, sl2, sl3, sl4, u1, u2, v1, v2]
      exact hK.out _ _ (Below.refl _ _) rfl
    have h55 : f 55 = .bool false := hf 55 (by kernel_rfl)
    simp only [putSl, Act.put, List.setIfInBounds_toArray, List.set_cons_zero, List.set_cons_succ, h55]
    have hq := hR
    clear hR hf h55
    generalize wy = w4 at hq ⊢
    have H4 : Hid (PdI w x3.heap.size w4.heap.size SH EN l 0 none 0 w4) := by
      obtain ⟨k1, k2, k3, k4⟩ := H3.out
      have e4 := k3.keep hq
      exact ⟨k2.trans (hq.mono k2.size), k1.keep hq, e4, ⟨by simp, Or.inl ⟨rfl, by simp⟩⟩, Nat.le_refl _, k4, e4.lt⟩
    clear hq H3
    by_cases hcut : l.length < 52 + 32 * NN
    · have dc : (S.size : Int) < 52 + 32 * (NN : Int) := by have := HLEN.out.1; omega
      have HPE : Hid (parE l = 101) := hd_cut HLEN.out.2.1 HLEN.out.2.2.1 HFO.out (by rw [← HSE.out.2.2.1]; exact hcut)
      have z4 := H4.out.z0
      have b4 := H4.out.bw
      clear hcut
      have zE := z4
      have bE := b4
      obtain ⟨e0, e1, e2⟩ := zE.cells
      have g0 := zE.frozen 0
      have g1 := zE.frozen 1
      have g2 := zE.frozen 2
      obtain ⟨W8, hW8⟩ : ∃ z, ((w4.setCell ⟨w.heap.size, 0, none⟩ (.bool false)).setCell ⟨w.heap.size, 1, none⟩ (.int .u32 0)).setCell ⟨w.heap.size, 2, none⟩ (.slice none 0 0) = z := ⟨_, rfl⟩
      have i8 := st3_in zE (.bool false) (.int .u32 0) (.slice none 0 0)
      have g8 := st3_grown w4 w.heap.size (.bool false) (.int .u32 0) (.slice none 0 0)
      rw [show st3 w4 w.heap.size (.bool false) (.int .u32 0) (.slice none 0 0) = W8 from hW8] at i8 g8
      have HE : Hid (post (.returned (.tuple #[.agg #[.bool false, .int .u32 0, .slice none 0 0], .int .i64 101])) W8) := HER.out W8 101 (HPE.out) (by decide) (bE.grown g8 bE.size (fun k e => by injection e with e; omega))
      obtain ⟨s0, s1, s2⟩ := i8.cells
      clear zE bE g8 i8 z4 b4
      go_wp2
      refine bodyPost_ret (v := .tuple #[.agg #[.bool false, .int .u32 0, .slice none 0 0], .int .i64 101]) ?_ rfl HE.out
      rw [results_cell_tmp rfl]; simp [go_sem, s0, s1, s2]
    have dc : ¬ (S.size : Int) < 52 + 32 * (NN : Int) := by have := HLEN.out.1; omega
    have HC : Hid (¬ l.length < 52 + 32 * hf l 44) := by rw [← HSE.out.2.2.1]; exact hcut
    have HC2 : Hid (52 + 32 * NN ≤ l.length) := Nat.le_of_not_lt hcut
    go_wp2
    generalize x3.heap.size = N2 at H4 ⊢
    generalize hBB : w4.heap.size = BB at H4
    clear hBB hcut u1 u2 v1 v2 t0 t1 sl1 sl2 sl3 sl4
    go_loopw [8] (fun x wr => ∃ (k : Nat) (sa : Option Addr) (sc : Nat), x = .int .i64 (k : Int) ∧ k ≤ NN ∧ (∀ i, i < k → segOkD (l.drop (52 + 32 * i)) = true) ∧ PdI w N2 BB SH EN l k sa sc wr) (fun x _ => NN - (intOf x).toNat)
    case atStart => exact ⟨0, none, 0, rfl, Nat.zero_le _, fun i h => absurd h (Nat.not_lt_zero _), H4.out⟩
    case round =>
      obtain ⟨k, sa, sc, rfl, hk, hok, hI⟩ := hrel
      have HI : Hid (PdI w N2 BB SH EN l k sa sc wr) := hI
      have HOKS : Hid (∀ i, i < k → segOkD (l.drop (52 + 32 * i)) = true) := hok
      clear hok hI
      by_cases hlt : k < NN
      · have hlti : (k : Int) < (NN : Int) := by omega
        have ik : (k : Int) ≤ 16 := by omega
        obtain ⟨AT, hAT⟩ : ∃ a, a = 52 + 32 * k := ⟨_, rfl⟩
        have eAT : (52 : Int) + 32 * (k : Int) = (AT : Int) := by omega
        have iAT : (AT : Int) ≤ 1000 := by omega
        have iAT0 : (0 : Int) ≤ (AT : Int) := by omega
        have Q0 := fun w' => KWD.out k 0 w' hlt HC2.out (by decide)
        rw [show ((52 + 32 * k + 0 : Nat) : Int) = (AT : Int) from by omega] at Q0
        have Q4 := fun w' => KWD.out k 4 w' hlt HC2.out (by decide)
        rw [show ((52 + 32 * k + 4 : Nat) : Int) = (AT : Int) + 4 from by omega] at Q4
        have Q8 := fun w' => KWD.out k 8 w' hlt HC2.out (by decide)
        rw [show ((52 + 32 * k + 8 : Nat) : Int) = (AT : Int) + 8 from by omega] at Q8
        have Q12 := fun w' => KWD.out k 12 w' hlt HC2.out (by decide)
        rw [show ((52 + 32 * k + 12 : Nat) : Int) = (AT : Int) + 12 from by omega] at Q12
        have Q16 := fun w' => KWD.out k 16 w' hlt HC2.out (by decide)
        rw [show ((52 + 32 * k + 16 : Nat) : Int) = (AT : Int) + 16 from by omega] at Q16
        have Q20 := fun w' => KWD.out k 20 w' hlt HC2.out (by decide)
        rw [show ((52 + 32 * k + 20 : Nat) : Int) = (AT : Int) + 20 from by omega] at Q20
        have Q24 := fun w' => KWD.out k 24 w' hlt HC2.out (by decide)
        rw [show ((52 + 32 * k + 24 : Nat) : Int) = (AT : Int) + 24 from by omega] at Q24
        have Q28 := fun w' => KWD.out k 28 w' hlt HC2.out (by decide)
        rw [show ((52 + 32 * k + 28 : Nat) : Int) = (AT : Int) + 28 from by omega] at Q28
        obtain ⟨XL, hXL⟩ : ∃ x, x = l.drop (52 + 32 * k) := ⟨_, rfl⟩
        rw [← hXL] at Q0 Q4 Q8 Q12 Q16 Q20 Q24 Q28
        have HSD : Hid (segOkD XL = (((wd XL 8 == wd XL 12) && decide (wd XL 24 ≤ 7)) && decide (wd XL 0 ≤ 3))) := rfl
        have HSB : Hid (segOkD XL = false → parE l = 103) := fun h => hd_seg HLEN.out.2.1 HLEN.out.2.2.1 HFO.out HC.out k (by rw [← HSE.out.2.2.1]; exact hlt) (by rw [← hXL]; exact h)
        have HSG : Hid (segN XL = ⟨(wd XL 0 : Int), wd XL 4, wd XL 8, wd XL 16, wd XL 20, (protN (wd XL 24) : Int), wd XL 28⟩) := rfl
        have HXL : Hid (XL = l.drop (52 + 32 * k)) := hXL
        have l24 := wd_lt XL 24
        have l0 := wd_lt XL 0
        have QP := fun w' => rprots12 (wd XL 24) l24 w'
        have p7 := protN_le (wd XL 24)
        generalize wd XL 24 = F24 at *
        generalize wd XL 0 = K0 at *
        generalize wd XL 4 = A4 at *
        generalize wd XL 8 = A8 at *
        generalize wd XL 12 = A12 at *
        generalize wd XL 16 = A16 at *
        generalize wd XL 20 = A20 at *
        generalize wd XL 28 = A28 at *
        generalize protN F24 = PF at *
        have iK : (K0 : Int) < 4294967296 := by omega
        clear hAT hXL l24 l0
        by_cases g1 : A8 = A12
        rotate_left
        · have n1 : ((A8 : Int) != (A12 : Int)) = true := by rw [bne_iff_ne]; intro h; exact g1 (by omega)
          have HPE : Hid (parE l = 103) := HSB.out (by rw [HSD.out, beq_eq_false_iff_ne.2 g1]; rfl)
          clear g1 Q4 Q16 Q20 Q28 QP
          go_wp2_with fail
          refine (Q24 wr).mono ?_
          rintro e y1 ⟨rfl, rfl⟩
          go_wp2_with fail
          refine (Q0 y1).mono ?_
          rintro e y2 ⟨rfl, rfl⟩
          go_wp2_with fail
          refine (Q8 y2).mono ?_
          rintro e y3 ⟨rfl, rfl⟩
          go_wp2_with fail
          refine (Q12 y3).mono ?_
          rintro e y4 ⟨rfl, rfl⟩
          clear eAT iAT iAT0 ik hlti p7 iK hNlt n52 n52' i52 zX dc d16 hN hlt hk
          have zE := HI.out.z0
          have bE := HI.out.bw
          obtain ⟨e0, e1, e2⟩ := zE.cells
          have g0 := zE.frozen 0
          have g1 := zE.frozen 1
          have g2 := zE.frozen 2
          obtain ⟨W8, hW8⟩ : ∃ z, ((y4.setCell ⟨w.heap.size, 0, none⟩ (.bool false)).setCell ⟨w.heap.size, 1, none⟩ (.int .u32 0)).setCell ⟨w.heap.size, 2, none⟩ (.slice none 0 0) = z := ⟨_, rfl⟩
          have i8 := st3_in zE (.bool false) (.int .u32 0) (.slice none 0 0)
          have g8 := st3_grown y4 w.heap.size (.bool false) (.int .u32 0) (.slice none 0 0)
          rw [show st3 y4 w.heap.size (.bool false) (.int .u32 0) (.slice none 0 0) = W8 from hW8] at i8 g8
          have HE : Hid (post (.returned (.tuple #[.agg #[.bool false, .int .u32 0, .slice none 0 0], .int .i64 103])) W8) := HER.out W8 103 (HPE.out) (by decide) (bE.grown g8 bE.size (fun k e => by injection e with e; omega))
          obtain ⟨s0, s1, s2⟩ := i8.cells
          clear zE bE g8 i8
          go_wp2
          refine bodyPost_ret (v := .tuple #[.agg #[.bool false, .int .u32 0, .slice none 0 0], .int .i64 103]) ?_ rfl HE.out
          rw [results_cell_tmp rfl]; simp [go_sem, s0, s1, s2]
        have n1 : ((A8 : Int) != (A12 : Int)) = false := by rw [g1]; exact bne_self_eq_false _
        by_cases g2 : F24 ≤ 7
        rotate_left
        · have d7 : (7 : Int) < (F24 : Int) := by omega
          have HPE : Hid (parE l = 103) := HSB.out (by rw [HSD.out, decide_eq_false g2, Bool.and_false]; rfl)
          have HG1 : Hid (A8 = A12) := g1
          clear g1 g2 Q4 Q16 Q20 Q28 QP
          go_wp2_with fail
          refine (Q24 wr).mono ?_
          rintro e y1 ⟨rfl, rfl⟩
          go_wp2_with fail
          refine (Q0 y1).mono ?_
          rintro e y2 ⟨rfl, rfl⟩
          go_wp2_with fail
          refine (Q8 y2).mono ?_
          rintro e y3 ⟨rfl, rfl⟩
          go_wp2_with fail
          refine (Q12 y3).mono ?_
          rintro e y4 ⟨rfl, rfl⟩
          clear eAT iAT iAT0 ik hlti p7 iK hNlt n52 n52' i52 zX dc d16 hN hlt hk
          have zE := HI.out.z0
          have bE := HI.out.bw
          obtain ⟨e0, e1, e2⟩ := zE.cells
          have g0 := zE.frozen 0
          have g1 := zE.frozen 1
          have g2 := zE.frozen 2
          obtain ⟨W8, hW8⟩ : ∃ z, ((y4.setCell ⟨w.heap.size, 0, none⟩ (.bool false)).setCell ⟨w.heap.size, 1, none⟩ (.int .u32 0)).setCell ⟨w.heap.size, 2, none⟩ (.slice none 0 0) = z := ⟨_, rfl⟩
          have i8 := st3_in zE (.bool false) (.int .u32 0) (.slice none 0 0)
          have g8 := st3_grown y4 w.heap.size (.bool false) (.int .u32 0) (.slice none 0 0)
          rw [show st3 y4 w.heap.size (.bool false) (.int .u32 0) (.slice none 0 0) = W8 from hW8] at i8 g8
          have HE : Hid (post (.returned (.tuple #[.agg #[.bool false, .int .u32 0, .slice none 0 0], .int .i64 103])) W8) := HER.out W8 103 (HPE.out) (by decide) (bE.grown g8 bE.size (fun k e => by injection e with e; omega))
          obtain ⟨s0, s1, s2⟩ := i8.cells
          clear zE bE g8 i8
          go_wp2
          refine bodyPost_ret (v := .tuple #[.agg #[.bool false, .int .u32 0, .slice none 0 0], .int .i64 103]) ?_ rfl HE.out
          rw [results_cell_tmp rfl]; simp [go_sem, s0, s1, s2]
        have d7 : ¬ (7 : Int) < (F24 : Int) := by omega
        by_cases g3 : K0 ≤ 3
        rotate_left
        · have d3 : (3 : Int) < (K0 : Int) := by omega
          have HPE : Hid (parE l = 103) := HSB.out (by rw [HSD.out, decide_eq_false g3, Bool.and_false])
          have HG1 : Hid (A8 = A12) := g1
          clear g1 g2 g3 Q4 Q16 Q20 Q28 QP
          go_wp2_with fail
          refine (Q24 wr).mono ?_
          rintro e y1 ⟨rfl, rfl⟩
          go_wp2_with fail
          refine (Q0 y1).mono ?_
          rintro e y2 ⟨rfl, rfl⟩
          go_wp2_with fail
          refine (Q8 y2).mono ?_
          rintro e y3 ⟨rfl, rfl⟩
          go_wp2_with fail
          refine (Q12 y3).mono ?_
          rintro e y4 ⟨rfl, rfl⟩
          clear eAT iAT iAT0 ik hlti p7 iK hNlt n52 n52' i52 zX dc d16 hN hlt hk
          have zE := HI.out.z0
          have bE := HI.out.bw
          obtain ⟨e0, e1, e2⟩ := zE.cells
          have g0 := zE.frozen 0
          have g1 := zE.frozen 1
          have g2 := zE.frozen 2
          obtain ⟨W8, hW8⟩ : ∃ z, ((y4.setCell ⟨w.heap.size, 0, none⟩ (.bool false)).setCell ⟨w.heap.size, 1, none⟩ (.int .u32 0)).setCell ⟨w.heap.size, 2, none⟩ (.slice none 0 0) = z := ⟨_, rfl⟩
          have i8 := st3_in zE (.bool false) (.int .u32 0) (.slice none 0 0)
          have g8 := st3_grown y4 w.heap.size (.bool false) (.int .u32 0) (.slice none 0 0)
          rw [show st3 y4 w.heap.size (.bool false) (.int .u32 0) (.slice none 0 0) = W8 from hW8] at i8 g8
          have HE : Hid (post (.returned (.tuple #[.agg #[.bool false, .int .u32 0, .slice none 0 0], .int .i64 103])) W8) := HER.out W8 103 (HPE.out) (by decide) (bE.grown g8 bE.size (fun k e => by injection e with e; omega))
          obtain ⟨s0, s1, s2⟩ := i8.cells
          clear zE bE g8 i8
          go_wp2
          refine bodyPost_ret (v := .tuple #[.agg #[.bool false, .int .u32 0, .slice none 0 0], .int .i64 103]) ?_ rfl HE.out
          rw [results_cell_tmp rfl]; simp [go_sem, s0, s1, s2]
        have d3 : ¬ (3 : Int) < (K0 : Int) := by omega
        have HNEW : Hid (segOkD XL = true) := by show _ = _; rw [HSD.out, g1, beq_self_eq_true, decide_eq_true g2, decide_eq_true g3]; rfl
        have iK3 : (K0 : Int) ≤ 3 := by omega
        have HLT : Hid (k < NN ∧ NN ≤ 16) := ⟨hlt, hN⟩
        clear g1 g2 g3
        go_wp2_with fail
        refine (Q24 wr).mono ?_
        rintro e y1 ⟨rfl, rfl⟩
        go_wp2_with fail
        refine (Q0 y1).mono ?_
        rintro e y2 ⟨rfl, rfl⟩
        go_wp2_with fail
        refine (Q8 y2).mono ?_
        rintro e y3 ⟨rfl, rfl⟩
        go_wp2_with fail
        refine (Q12 y3).mono ?_
        rintro e y4 ⟨rfl, rfl⟩
        clear eAT ik hlti p7 iK hNlt n52 n52' i52 zX dc d16 hN hlt hk
        go_wp2_with fail
        refine (Q4 y4).mono ?_
        rintro e y5 ⟨rfl, rfl⟩
        go_wp2_with fail
        refine (Q8 y5).mono ?_
        rintro e y6 ⟨rfl, rfl⟩
        go_wp2_with fail
        refine (Q16 y6).mono ?_
        rintro e y7 ⟨rfl, rfl⟩
        go_wp2_with fail
        refine (Q20 y7).mono ?_
        rintro e y8 ⟨rfl, rfl⟩
        go_wp2_with fail
        refine (QP y8).mono ?_
        rintro e y9 ⟨rfl, rfl⟩
        go_wp2_with fail
        refine (Q28 y9).mono ?_
        rintro e y10 ⟨rfl, rfl⟩
        obtain ⟨W5, hW5, hb5, hz5, r0, r1, r2, r3, r4, r5, r6⟩ := box7 y10 ⟨(K0 : Int), A4, A8, A16, A20, (PF : Int), A28⟩
        dsimp only at hW5 r0 r1 r2 r3 r4 r5 r6
        obtain ⟨W6, hW6⟩ : ∃ W6, W5.alloc (.cells #[.int .i64 (K0 : Int), .int .u32 (A4 : Int), .int .u32 (A8 : Int), .int .u32 (A16 : Int), .int .u32 (A20 : Int), .int .i64 (PF : Int), .int .u32 (A28 : Int)] 41) = W6 := ⟨_, rfl⟩
        have hb6 : Below W5.heap.size W5 W6 := by rw [← hW6]; exact (Below.refl _ _).alloc (Nat.le_refl _) _
        have h6 : W6.heap[W5.heap.size]? = some (.cells #[.int .i64 (K0 : Int), .int .u32 (A4 : Int), .int .u32 (A8 : Int), .int .u32 (A16 : Int), .int .u32 (A20 : Int), .int .i64 (PF : Int), .int .u32 (A28 : Int)] 41 (0, 0)) := by rw [← hW6]; exact World.alloc_heap_new W5 _
        have J5 := HI.out.keep hb5
        have c2 := J5.e.cells.2.2
        have J6 := J5.keep hb6
        have HJ6 : Hid (PdI w N2 BB SH EN l k sa sc W6) := J6
        have HTK : Hid (((segsAt l (hf l 44)).take (k + 1)).length = ((segsAt l (hf l 44)).take k).length + 1 ∧ ((segsAt l (hf l 44)).take (k + 1)).flatMap Sg.cells = ((segsAt l (hf l 44)).take k).flatMap Sg.cells ++ (⟨(K0 : Int), A4, A8, A16, A20, (PF : Int), A28⟩ : Sg).cells ∧ k < hf l 44) := by
          have hkk : k < hf l 44 := by rw [← HSE.out.2.2.1]; exact HLT.out.1
          have hkl : k < (segsAt l (hf l 44)).length := by rw [segsAt_len]; exact hkk
          refine ⟨?_, ?_, hkk⟩
          · rw [List.length_take, List.length_take, segsAt_len]; omega
          · rw [List.take_succ_eq_append_getElem hkl, List.flatMap_append, segsAt_get l _ k hkk, ← HXL.out, HSG.out]; simp
        obtain ⟨i0, hi1, hi2, hi3, hi4⟩ := info39
        have HC7 := cells7 W6 W5.heap.size ⟨(K0 : Int), A4, A8, A16, A20, (PF : Int), A28⟩ h6
        have how := HJ6.out.own
        have hsz6 := HJ6.out.sz
        have HOW : Hid (W6.ownsRow BB 41 7 (.slice sa k sc) ((segsAt l (hf l 44)).take k).length (((segsAt l (hf l 44)).take k).flatMap Sg.cells) ∧ BB ≤ W6.heap.size ∧ ∀ j u, ((⟨(K0 : Int), A4, A8, A16, A20, (PF : Int), A28⟩ : Sg).cells)[j]? = some u → W6.cell? ((⟨W5.heap.size, 0, none⟩ : Addr).add j) = some u) := ⟨how, hsz6, HC7⟩
        clear J5 J6 hb5 hb6 hz5 h6 how hsz6 HC7
        go_wp2_with (at_builtin; refine wpList_append_own _ rfl _ _ 35 rfl BB 41 i0 _ 7 40 Tryz.underlying35 hi1 hi2 hi3 hi4 rfl (by decide) _ _ _ rfl HOW.out.1 ⟨W5.heap.size, 0, none⟩ 1 1 (⟨(K0 : Int), A4, A8, A16, A20, (PF : Int), A28⟩ : Sg).cells rfl rfl HOW.out.2.2 ?_ ?_ ?_ HOW.out.2.1 ?_)
        · intro u hu; simp [Sg.cells] at hu; rcases hu with rfl | rfl | rfl | rfl | rfl | rfl | rfl <;> rfl
        · have := HLT.out; rw [List.length_take]; unfold maxLen; omega
        · have := HLT.out; rw [List.length_take]; omega
        intro sv w7 how7 hgr7 _
        have hn := HJ6.out.next HTK.out.2.2 hgr7 (by show w7.ownsRow _ _ _ _ _ _; rw [HTK.out.1, HTK.out.2.1, List.length_take]; exact how7)
        obtain ⟨⟨sa2, sc2, rfl⟩, hB3, hnx⟩ := hn
        have HNX : Hid (PdI w N2 BB SH EN l (k + 1) sa2 sc2 (w7.setCell ⟨N2, 2, none⟩ (.slice sa2 (k + 1) sc2))) := hnx sa2 sc2 rfl
        have c27 := hB3.cells.2.2
        have z27 := hB3.frozen 2
        have HALL : Hid (∀ i, i < k + 1 → segOkD (l.drop (52 + 32 * i)) = true) := fun i hi => by
          by_cases e : i = k
          · rw [e, ← HXL.out]; exact HNEW.out
          · exact HOKS.out i (by omega)
        clear hnx hB3 how7 hgr7 c2 r0 r1 r2 r3 r4 r5 r6 hW5 hW6 hi1 hi2 hi3 hi4
        have ik : (k : Int) ≤ 16 := by have := HLT.out; omega
        go_wp2
        have hlt := HLT.out.1
        go_roundw
        case rel => exact ⟨k + 1, sa2, sc2, by go_num, by omega, HALL.out, HNX.out⟩
        case measure => simp [intOf]; omega
      · have hke : k = NN := by omega
        subst hke
        have hown : OwnG BB wr (.slice sa k sc) (efAt l).segs := by
          have := HI.out.own
          rw [List.take_of_length_le (by rw [segsAt_len, ← HSE.out.2.2.1]; exact Nat.le_refl _)] at this
          exact this
        have KF := rfit14 (efAt l) (.slice sa k sc) wr hown.sl (segsAt_bd l _) (by rw [HES.out.1, segsAt_len, ← HSE.out.2.2.1]; omega)
        unfold Ef.val at KF
        rw [HES.out.2.1, HES.out.2.2] at KF
        have HOW : Hid (OwnG BB wr (.slice sa k sc) (efAt l).segs) := hown
        have HNN : Hid (k = hf l 44 ∧ k ≤ 16) := ⟨HSE.out.2.2.1, hN⟩
        obtain ⟨q0, q1, q2⟩ := HI.out.e.cells
        clear hown hNlt n52 n52' i52 zX dc d16 hlt hk hN
        cases hfe : fitE (efAt l) with
        | false =>
          rw [hfe] at KF
          have HPE : Hid (parE l = 103) := hd_unfit HLEN.out.2.1 HLEN.out.2.2.1 HFO.out HC.out hfe
          go_wp2_with fail
          refine KF.mono ?_
          rintro e w5 ⟨rfl, hb5⟩
          have HJ5 : Hid (PdI w N2 BB SH EN l k sa sc w5) := HI.out.keep hb5
          clear KF q0 q1 q2 hb5
          have zE := HJ5.out.z0
          have bE := HJ5.out.bw
          obtain ⟨e0, e1, e2⟩ := zE.cells
          have g0 := zE.frozen 0
          have g1 := zE.frozen 1
          have g2 := zE.frozen 2
          obtain ⟨W8, hW8⟩ : ∃ z, ((w5.setCell ⟨w.heap.size, 0, none⟩ (.bool false)).setCell ⟨w.heap.size, 1, none⟩ (.int .u32 0)).setCell ⟨w.heap.size, 2, none⟩ (.slice none 0 0) = z := ⟨_, rfl⟩
          have i8 := st3_in zE (.bool false) (.int .u32 0) (.slice none 0 0)
          have g8 := st3_grown w5 w.heap.size (.bool false) (.int .u32 0) (.slice none 0 0)
          rw [show st3 w5 w.heap.size (.bool false) (.int .u32 0) (.slice none 0 0) = W8 from hW8] at i8 g8
          have HE : Hid (post (.returned (.tuple #[.agg #[.bool false, .int .u32 0, .slice none 0 0], .int .i64 103])) W8) := HER.out W8 103 (HPE.out) (by decide) (bE.grown g8 bE.size (fun k e => by injection e with e; omega))
          obtain ⟨s0, s1, s2⟩ := i8.cells
          clear zE bE g8 i8
          go_wp2
          refine bodyPost_ret (v := .tuple #[.agg #[.bool false, .int .u32 0, .slice none 0 0], .int .i64 103]) ?_ rfl HE.out
          rw [results_cell_tmp rfl]; simp [go_sem, s0, s1, s2]
        | true =>
          rw [hfe] at KF
          have HPO : Hid (parE l = if (efAt l).segs.any (farS S.size) = true then 104 else 0) := by
            rw [HLEN.out.1]
            exact hd_ok HLEN.out.2.1 HLEN.out.2.2.1 HFO.out HC.out (fun i hi => HOKS.out i (by rw [HNN.out.1]; exact hi)) hfe
          go_wp2_with fail
          refine KF.mono ?_
          rintro e w5 ⟨rfl, hb5⟩
          have HJ5 : Hid (PdI w N2 BB SH EN l k sa sc w5 ∧ OwnG BB w5 (.slice sa k sc) (efAt l).segs) := ⟨HI.out.keep hb5, HOW.out.keep hb5⟩
          have HOKE : Hid (∀ w' v, parE l = 0 → OwnG w.heap.size w' v (efAt l).segs → Below w.heap.size w w' → post (.returned (.tuple #[.agg #[.bool SH, .int .u32 (EN : Int), v], .int .i64 0])) w') := fun w' v h1 h2 h3 => by
            have := HOK.out w' v h1 h2 h3
            rw [HES.out.2.1, HES.out.2.2] at this
            exact this
          clear KF q0 q1 q2 hb5 HOK
          obtain ⟨GS, hGS⟩ : ∃ g, g = (efAt l).segs := ⟨_, rfl⟩
          have HGL : Hid (GS.length = k) := by show _ = _; rw [hGS, HES.out.1, segsAt_len]; exact HNN.out.1.symm
          have HBD : Hid (∀ g ∈ GS, g.Bd) := by rw [hGS]; exact segsAt_bd l _
          rw [← hGS] at HJ5 HPO HOKE
          clear hGS hfe HOW
          go_wp2
          go_loopw [13] (fun x wr => ∃ i : Nat, x = .int .i64 (i : Int) ∧ i ≤ k ∧ (GS.take i).any (farS S.size) = false ∧ Below w5.heap.size w5 wr) (fun x _ => k - (intOf x).toNat)
          case atStart => exact ⟨0, rfl, Nat.zero_le _, rfl, Below.refl _ _⟩
          case round =>
            obtain ⟨i, rfl, hi, hany, hb6⟩ := hrel
            have HJ : Hid (PdI w N2 BB SH EN l k sa sc wr ∧ OwnG BB wr (.slice sa k sc) GS ∧ Below w5.heap.size w5 wr) := ⟨HJ5.out.1.keep hb6, HJ5.out.2.keep hb6, hb6⟩
            clear hb6
            by_cases hlt : i < k
            · have hlti : (i : Int) < (k : Int) := by omega
              have c2 := HJ.out.1.e.cells.2.2
              obtain ⟨ao', cap', he, _, _, _, h4⟩ := HJ.out.2.1.sl
              injection he with he1 he2 he3
              have hltg : i < GS.length := by rw [HGL.out]; exact hlt
              obtain ⟨b, o, hbo, h7⟩ := h4 i hltg
              rw [← he1] at hbo
              subst hbo
              obtain ⟨g, hg⟩ : ∃ g, g = GS[i] := ⟨_, rfl⟩
              have hmem : g ∈ GS := by rw [hg]; exact List.getElem_mem hltg
              have hbd := HBD.out g hmem
              rw [← hg] at h7
              have htk : (GS.take (i + 1)).any (farS S.size) = farS S.size g := by
                rw [List.take_succ_eq_append_getElem hltg, List.any_append, hany, hg]; simp
              have hfa : farS S.size g = decide ((S.size : Int) < (g.off : Int) + (g.size : Int)) := by unfold farS; rw [Bool.eq_iff_iff]; simp only [decide_eq_true_eq]; omega
              have HA : Hid ((GS.take (i + 1)).any (farS S.size) = farS S.size g ∧ (farS S.size g = true → GS.any (farS S.size) = true) ∧ farS S.size g = decide ((S.size : Int) < (g.off : Int) + (g.size : Int))) := ⟨htk, fun h => List.any_eq_true.2 ⟨g, hmem, h⟩, hfa⟩
              obtain ⟨r0, r1, r2, r3, r4, r5, r6⟩ := h7
              have io : (g.off : Int) < 4294967296 := by have := hbd.o; omega
              have is : (g.size : Int) < 4294967296 := by have := hbd.s; omega
              have iz : (S.size : Int) ≤ 1000000 := by have := HLEN.out.1; have := HLEN.out.2.2.2; omega
              clear htk hfa hany hg hmem hbd h4 he1 he2 he3 r0 r2 r4 r5 r6
              by_cases hfr : (S.size : Int) < (g.off : Int) + (g.size : Int)
              · have HPE : Hid (parE l = 104) := by show _ = _; rw [HPO.out, if_pos (HA.out.2.1 (by rw [HA.out.2.2]; exact decide_eq_true hfr))]
                go_wp2
                go_quiet (fail)
                generalize hw9 : wr.drewN nq = w9
                have hq : Below wr.heap.size wr w9 := by rw [← hw9]; exact below_drewN (Below.refl _ _) _
                have z9 := HJ.out.1.z0.keep hq
                have b9 := HJ.out.1.bw.trans (hq.mono HJ.out.1.bw.size)
                clear hq hw9 c2 r1 r3 io is iz
                have zE := z9
                have bE := b9
                obtain ⟨e0, e1, e2⟩ := zE.cells
                have g0 := zE.frozen 0
                have g1 := zE.frozen 1
                have g2 := zE.frozen 2
                obtain ⟨W8, hW8⟩ : ∃ z, ((w9.setCell ⟨w.heap.size, 0, none⟩ (.bool false)).setCell ⟨w.heap.size, 1, none⟩ (.int .u32 0)).setCell ⟨w.heap.size, 2, none⟩ (.slice none 0 0) = z := ⟨_, rfl⟩
                have i8 := st3_in zE (.bool false) (.int .u32 0) (.slice none 0 0)
                have g8 := st3_grown w9 w.heap.size (.bool false) (.int .u32 0) (.slice none 0 0)
                rw [show st3 w9 w.heap.size (.bool false) (.int .u32 0) (.slice none 0 0) = W8 from hW8] at i8 g8
                have HE : Hid (post (.returned (.tuple #[.agg #[.bool false, .int .u32 0, .slice none 0 0], .int .i64 104])) W8) := HER.out W8 104 (HPE.out) (by decide) (bE.grown g8 bE.size (fun k e => by injection e with e; omega))
                obtain ⟨s0, s1, s2⟩ := i8.cells
                clear zE bE g8 i8 z9 b9
                go_wp2
                refine bodyPost_ret (v := .tuple #[.agg #[.bool false, .int .u32 0, .slice none 0 0], .int .i64 104]) ?_ rfl HE.out
                rw [results_cell_tmp rfl]; simp [go_sem, s0, s1, s2]
              · have HNX : Hid ((GS.take (i + 1)).any (farS S.size) = false) := by show _ = _; rw [HA.out.1, HA.out.2.2, decide_eq_false hfr]
                have ik : (k : Int) ≤ 16 := by have := HNN.out.2; omega
                go_wp2
                go_quiet (fail)
                clear io is iz c2 r1 r3
                go_wp2
                go_roundw
                case rel => exact ⟨i + 1, by go_num, by omega, HNX.out, below_drewN HJ.out.2.2 _⟩
                case measure => simp [intOf]; omega
            · have hie : i = k := by omega
              subst hie
              have HP0 : Hid (parE l = 0) := by
                show _ = _
                rw [HPO.out, if_neg]
                rw [List.take_of_length_le (by rw [HGL.out]; exact Nat.le_refl _)] at hany
                rw [hany]
                decide
              obtain ⟨q0, q1, q2⟩ := HJ.out.1.e.cells
              have zE := HJ.out.1.z0
              obtain ⟨e0, e1, e2⟩ := zE.cells
              have g0 := zE.frozen 0
              have g1 := zE.frozen 1
              have g2 := zE.frozen 2
              obtain ⟨W8, hW8⟩ : ∃ z, ((wr.setCell ⟨w.heap.size, 0, none⟩ (.bool SH)).setCell ⟨w.heap.size, 1, none⟩ (.int .u32 (EN : Int))).setCell ⟨w.heap.size, 2, none⟩ (.slice sa i sc) = z := ⟨_, rfl⟩
              have i8 := st3_in zE (.bool SH) (.int .u32 (EN : Int)) (.slice sa i sc)
              have g8 := st3_grown wr w.heap.size (.bool SH) (.int .u32 (EN : Int)) (.slice sa i sc)
              rw [show st3 wr w.heap.size (.bool SH) (.int .u32 (EN : Int)) (.slice sa i sc) = W8 from hW8] at i8 g8
              have HE : Hid (post (.returned (.tuple #[.agg #[.bool SH, .int .u32 (EN : Int), .slice sa i sc], .int .i64 0])) W8) := by
                have o1 := HJ.out.1.o1; have o2 := HJ.out.1.o2
                exact HOKE.out W8 _ HP0.out ((HJ.out.2.1.row g8 (by omega)).base (by omega)) (HJ.out.1.bw.grown g8 HJ.out.1.bw.size (fun k e => by injection e with e; omega))
              obtain ⟨s0, s1, s2⟩ := i8.cells
              clear zE g8 i8 hany hlt hi
              go_wp2
              refine bodyPost_ret (v := .tuple #[.agg #[.bool SH, .int .u32 (EN : Int), .slice sa i sc], .int .i64 0]) ?_ rfl HE.out
              rw [results_cell_tmp rfl]; simp [go_sem, s0, s1, s2]
  · go_enter Tryz.func15, Tryz.ntmps15
    go_wp2_with fail
    refine (K16.out W1).mono ?_
    rintro e x1 ⟨rfl, rfl⟩
    go_wp2_with fail
    refine (K44.out x1).mono ?_
    rintro e x2 ⟨rfl, rfl⟩
    go_wp2_with fail
    refine (K24.out x2).mono ?_
    rintro e x3 ⟨rfl, rfl⟩
    go_wp2_with fail
    refine KX.mono ?_
    rintro e w3 ⟨rfl, hb3⟩
    clear KX q0 q1 q2 f0 f1 f2 hV2 hW2 c0 c1 c2 hW1
    have H3 : Hid (Z3 w.heap.size w3 ∧ Below w.heap.size w w3 ∧ B3 (.bool SH) (.int .u32 (EN : Int)) (.slice none 0 0) x3.heap.size w3 ∧ w.heap.size < x3.heap.size) := ⟨H2.out.1.keep hb3, H2.out.2.1.trans (hb3.mono H2.out.2.1.size), H2.out.2.2.1.keep hb3, H2.out.2.2.2⟩
    clear hb3
    cases hB1 : B1 with
    | false =>
      rw [hB1] at u1 v1 HFO
      have v1 : (XA.toList != XB.toList) = true := v1
      have HPE : Hid (parE l = 103) := hd_103 HLEN.out.2.1 HLEN.out.2.2.1 HFO.out
      go_wp2
      refine wp_region_slots (R := Ext) [⟨44, fun v _ => v = .string S, fun _ _ _ _ h => h⟩, ⟨45, fun v _ => v = .string XA, fun _ _ _ _ h => h⟩, ⟨46, fun v _ => v = .string X, fun _ _ _ _ h => h⟩, ⟨47, fun v _ => v = .string XB, fun _ _ _ _ h => h⟩, ⟨48, fun v _ => v = .bool true, fun _ _ _ _ h => h⟩, ⟨49, fun v _ => v = .bool true, fun _ _ _ _ h => h⟩, ⟨55, fun v _ => v = .bool true, fun _ _ _ _ h => h⟩] _ (by kernel_rfl) rfl (by kernel_rfl) (Below.drew (Below.refl _ _)) (fun _ _ _ h1 h2 => below_tr h1 h2) (fun QQ => ⟨?_, ?_, ?_, ?_, ?_, ?_, ?_, ?_, ?_, ?_, ?_, ?_, trivial⟩) (fun f wy hR hf => ?_)
      · intro A wx hR hout hdep K hK
        have h0 : A.tmps[0]?.getD undef = .string S := hout 0 (by kernel_rfl)
        refine if_yes (by kernel_rfl) ?_
        simp [go_sem, h0, sl1, sl2, sl3, sl4, u1, u2, v1, v2]
        exact hK.out _ _ (Below.refl _ _) rfl
      · intro A wx hR hout hdep K hK
        have h44 : A.tmps[44]?.getD undef = .string S := hdep 44 (by kernel_rfl)
        refine if_yes (by kernel_rfl) ?_
        simp [go_sem, h44, sl1, sl2, sl3, sl4, u1, u2, v1, v2]
        exact hK.out _ _ (Below.refl _ _) rfl
      · intro A wx hR hout hdep K hK
        have h7 : A.tmps[7]?.getD undef = .string X := hout 7 (by kernel_rfl)
        refine if_yes (by kernel_rfl) ?_
        simp [go_sem, h7, sl1, sl2, sl3, sl4, u1, u2, v1, v2]
        exact hK.out _ _ (Below.refl _ _) rfl
      · intro A wx hR hout hdep K hK
        have h46 : A.tmps[46]?.getD undef = .string X := hdep 46 (by kernel_rfl)
        refine if_yes (by kernel_rfl) ?_
        simp [go_sem, h46, sl1, sl2, sl3, sl4, u1, u2, v1, v2]
        exact hK.out _ _ (Below.refl _ _) rfl
      · intro A wx hR hout hdep K hK
        have h45 : A.tmps[45]?.getD undef = .string XA := hdep 45 (by kernel_rfl)
        have h47 : A.tmps[47]?.getD undef = .string XB := hdep 47 (by kernel_rfl)
        refine if_yes (by kernel_rfl) ?_
        simp [go_sem, h45, h47, sl1, sl2, sl3, sl4, u1, u2, v1, v2]
        exact hK.out _ _ (Below.refl _ _) rfl
      · intro A wx hR hout hdep K hK
        have h48 : A.tmps[48]?.getD undef = .bool true := hdep 48 (by kernel_rfl)
        refine if_yes (by kernel_rfl) ?_
        simp [go_sem, h48, sl1, sl2, sl3, sl4, u1, u2, v1, v2]
        exact hK.out _ _ (Below.refl _ _) rfl
      · intro A wx hR hout hdep K hK
        have h0 : A.tmps[0]?.getD undef = .string S := hout 0 (by kernel_rfl)
        have h49 : A.tmps[49]?.getD undef = .bool true := hdep 49 (by kernel_rfl)
        refine if_not (by rw [wanted_is (j := 5) (b := false) (by kernel_rfl) (by kernel_rfl) h49]; decide) ?_
        exact hK.out _ _ (Below.refl _ _) trivial
      · intro A wx hR hout hdep K hK
        have h49 : A.tmps[49]?.getD undef = .bool true := hdep 49 (by kernel_rfl)
        refine if_not (by rw [wanted_is (j := 5) (b := false) (by kernel_rfl) (by kernel_rfl) h49]; decide) ?_
        exact hK.out _ _ (Below.refl _ _) trivial
      · intro A wx hR hout hdep K hK
        have h7 : A.tmps[7]?.getD undef = .string X := hout 7 (by kernel_rfl)
        have h49 : A.tmps[49]?.getD undef = .bool true := hdep 49 (by kernel_rfl)
        refine if_not (by rw [wanted_is (j := 5) (b := false) (by kernel_rfl) (by kernel_rfl) h49]; decide) ?_
        exact hK.out _ _ (Below.refl _ _) trivial
      · intro A wx hR hout hdep K hK
        have h49 : A.tmps[49]?.getD undef = .bool true := hdep 49 (by kernel_rfl)
        refine if_not (by rw [wanted_is (j := 5) (b := false) (by kernel_rfl) (by kernel_rfl) h49]; decide) ?_
        exact hK.out _ _ (Below.refl _ _) trivial
      · intro A wx hR hout hdep K hK
        have h49 : A.tmps[49]?.getD undef = .bool true := hdep 49 (by kernel_rfl)
        refine if_not (by rw [wanted_is (j := 5) (b := false) (by kernel_rfl) (by kernel_rfl) h49]; decide) ?_
        exact hK.out _ _ (Below.refl _ _) trivial
      · intro A wx hR hout hdep K hK
        have h49 : A.tmps[49]?.getD undef = .bool true := hdep 49 (by kernel_rfl)
        refine if_yes (by kernel_rfl) ?_
        simp [go_sem, h49, sl1, sl2, sl3, sl4, u1, u2, v1, v2]
        exact hK.out _ _ (Below.refl _ _) rfl
      have h55 : f 55 = .bool true := hf 55 (by kernel_rfl)
      simp only [putSl, Act.put, List.setIfInBounds_toArray, List.set_cons_zero, List.set_cons_succ, h55]
      have z4 := H3.out.1.keep hR
      have b4 := H3.out.2.1.trans (hR.mono H3.out.2.1.size)
      clear hR hf h55
      generalize wy = w4 at z4 b4 ⊢
      have zE := z4
      have bE := b4
      obtain ⟨e0, e1, e2⟩ := zE.cells
      have g0 := zE.frozen 0
      have g1 := zE.frozen 1
      have g2 := zE.frozen 2
      obtain ⟨W8, hW8⟩ : ∃ z, ((w4.setCell ⟨w.heap.size, 0, none⟩ (.bool false)).setCell ⟨w.heap.size, 1, none⟩ (.int .u32 0)).setCell ⟨w.heap.size, 2, none⟩ (.slice none 0 0) = z := ⟨_, rfl⟩
      have i8 := st3_in zE (.bool false) (.int .u32 0) (.slice none 0 0)
      have g8 := st3_grown w4 w.heap.size (.bool false) (.int .u32 0) (.slice none 0 0)
      rw [show st3 w4 w.heap.size (.bool false) (.int .u32 0) (.slice none 0 0) = W8 from hW8] at i8 g8
      have HE : Hid (post (.returned (.tuple #[.agg #[.bool false, .int .u32 0, .slice none 0 0], .int .i64 103])) W8) := HER.out W8 103 (HPE.out) (by decide) (bE.grown g8 bE.size (fun k e => by injection e with e; omega))
      obtain ⟨s0, s1, s2⟩ := i8.cells
      clear zE bE g8 i8 z4 b4
      go_wp2
      refine bodyPost_ret (v := .tuple #[.agg #[.bool false, .int .u32 0, .slice none 0 0], .int .i64 103]) ?_ rfl HE.out
      rw [results_cell_tmp rfl]; simp [go_sem, s0, s1, s2]
    | true =>
    rw [hB1] at u1 v1 HFO
    have v1 : (XA.toList != XB.toList) = false := v1
    cases hB2 : B2 with
    | false =>
      rw [hB2] at u2 v2 HFO
      have v2 : (XC.toList != XD.toList) = true := v2
      have HPE : Hid (parE l = 103) := hd_103 HLEN.out.2.1 HLEN.out.2.2.1 HFO.out
      go_wp2
      refine wp_region_slots (R := Ext) [⟨44, fun v _ => v = .string S, fun _ _ _ _ h => h⟩, ⟨45, fun v _ => v = .string XA, fun _ _ _ _ h => h⟩, ⟨46, fun v _ => v = .string X, fun _ _ _ _ h => h⟩, ⟨47, fun v _ => v = .string XB, fun _ _ _ _ h => h⟩, ⟨48, fun v _ => v = .bool false, fun _ _ _ _ h => h⟩, ⟨49, fun v _ => v = .bool false, fun _ _ _ _ h => h⟩, ⟨50, fun v _ => v = .string S, fun _ _ _ _ h => h⟩, ⟨51, fun v _ => v = .string XC, fun _ _ _ _ h => h⟩, ⟨52, fun v _ => v = .string X, fun _ _ _ _ h => h⟩, ⟨53, fun v _ => v = .string XD, fun _ _ _ _ h => h⟩, ⟨54, fun v _ => v = .bool true, fun _ _ _ _ h => h⟩, ⟨55, fun v _ => v = .bool true, fun _ _ _ _ h => h⟩] _ (by kernel_rfl) rfl (by kernel_rfl) (Below.drew (Below.refl _ _)) (fun _ _ _ h1 h2 => below_tr h1 h2) (fun QQ => ⟨?_, ?_, ?_, ?_, ?_, ?_, ?_, ?_, ?_, ?_, ?_, ?_, trivial⟩) (fun f wy hR hf => ?_)
      · intro A wx hR hout hdep K hK
        have h0 : A.tmps[0]?.getD undef = .string S := hout 0 (by kernel_rfl)
        refine if_yes (by kernel_rfl) ?_
        simp [go_sem, h0, sl1, sl2, sl3, sl4, u1, u2, v1, v2]
        exact hK.out _ _ (Below.refl _ _) rfl
      · intro A wx hR hout hdep K hK
        have h44 : A.tmps[44]?.getD undef = .string S := hdep 44 (by kernel_rfl)
        refine if_yes (by kernel_rfl) ?_
        simp [go_sem, h44, sl1, sl2, sl3, sl4, u1, u2, v1, v2]
        exact hK.out _ _ (Below.refl _ _) rfl
      · intro A wx hR hout hdep K hK
        have h7 : A.tmps[7]?.getD undef = .string X := hout 7 (by kernel_rfl)
        refine if_yes (by kernel_rfl) ?_
        simp [go_sem, h7, sl1, sl2, sl3, sl4, u1, u2, v1, v2]
        exact hK.out _ _ (Below.refl _ _) rfl
      · intro A wx hR hout hdep K hK
        have h46 : A.tmps[46]?.getD undef = .string X := hdep 46 (by kernel_rfl)
        refine if_yes (by kernel_rfl) ?_
        simp [go_sem, h46, sl1, sl2, sl3, sl4, u1, u2, v1, v2]
        exact hK.out _ _ (Below.refl _ _) rfl
      · intro A wx hR hout hdep K hK
        have h45 : A.tmps[45]?.getD undef = .string XA := hdep 45 (by kernel_rfl)
        have h47 : A.tmps[47]?.getD undef = .string XB := hdep 47 (by kernel_rfl)
        refine if_yes (by kernel_rfl) ?_
        simp [go_sem, h45, h47, sl1, sl2, sl3, sl4, u1, u2, v1, v2]
        exact hK.out _ _ (Below.refl _ _) rfl
      · intro A wx hR hout hdep K hK
        have h48 : A.tmps[48]?.getD undef = .bool false := hdep 48 (by kernel_rfl)
        refine if_yes (by kernel_rfl) ?_
        simp [go_sem, h48, sl1, sl2, sl3, sl4, u1, u2, v1, v2]
        exact hK.out _ _ (Below.refl _ _) rfl
      · intro A wx hR hout hdep K hK
        have h0 : A.tmps[0]?.getD undef = .string S := hout 0 (by kernel_rfl)
        have h49 : A.tmps[49]?.getD undef = .bool false := hdep 49 (by kernel_rfl)
        refine if_yes ((wanted_is (j := 5) (b := false) (by kernel_rfl) (by kernel_rfl) h49).trans rfl) ?_
        simp [go_sem, h0, sl1, sl2, sl3, sl4, u1, u2, v1, v2]
        exact hK.out _ _ (Below.refl _ _) rfl
      · intro A wx hR hout hdep K hK
        have h50 : A.tmps[50]?.getD undef = .string S := hdep 50 (by kernel_rfl)
        have h49 : A.tmps[49]?.getD undef = .bool false := hdep 49 (by kernel_rfl)
        refine if_yes ((wanted_is (j := 5) (b := false) (by kernel_rfl) (by kernel_rfl) h49).trans rfl) ?_
        simp [go_sem, h50, sl1, sl2, sl3, sl4, u1, u2, v1, v2]
        exact hK.out _ _ (Below.refl _ _) rfl
      · intro A wx hR hout hdep K hK
        have h7 : A.tmps[7]?.getD undef = .string X := hout 7 (by kernel_rfl)
        have h49 : A.tmps[49]?.getD undef = .bool false := hdep 49 (by kernel_rfl)
        refine if_yes ((wanted_is (j := 5) (b := false) (by kernel_rfl) (by kernel_rfl) h49).trans rfl) ?_
        simp [go_sem, h7, sl1, sl2, sl3, sl4, u1, u2, v1, v2]
        exact hK.out _ _ (Below.refl _ _) rfl
      · intro A wx hR hout hdep K hK
        have h52 : A.tmps[52]?.getD undef = .string X := hdep 52 (by kernel_rfl)
        have h49 : A.tmps[49]?.getD undef = .bool false := hdep 49 (by kernel_rfl)
        refine if_yes ((wanted_is (j := 5) (b := false) (by kernel_rfl) (by kernel_rfl) h49).trans rfl) ?_
        simp [go_sem, h52, sl1, sl2, sl3, sl4, u1, u2, v1, v2]
        exact hK.out _ _ (Below.refl _ _) rfl
      · intro A wx hR hout hdep K hK
        have h51 : A.tmps[51]?.getD undef = .string XC := hdep 51 (by kernel_rfl)
        have h53 : A.tmps[53]?.getD undef = .string XD := hdep 53 (by kernel_rfl)
        have h49 : A.tmps[49]?.getD undef = .bool false := hdep 49 (by kernel_rfl)
        refine if_yes ((wanted_is (j := 5) (b := false) (by kernel_rfl) (by kernel_rfl) h49).trans rfl) ?_
        simp [go_sem, h51, h53, sl1, sl2, sl3, sl4, u1, u2, v1, v2]
        exact hK.out _ _ (Below.refl _ _) rfl
      · intro A wx hR hout hdep K hK
        have h49 : A.tmps[49]?.getD undef = .bool false := hdep 49 (by kernel_rfl)
        have h54 : A.tmps[54]?.getD undef = .bool true := hdep 54 (by kernel_rfl)
        refine if_yes (by kernel_rfl) ?_
        simp [go_sem, h49, h54, sl1, sl2, sl3, sl4, u1, u2, v1, v2]
        exact hK.out _ _ (Below.refl _ _) rfl
      have h55 : f 55 = .bool true := hf 55 (by kernel_rfl)
      simp only [putSl, Act.put, List.setIfInBounds_toArray, List.set_cons_zero, List.set_cons_succ, h55]
      have z4 := H3.out.1.keep hR
      have b4 := H3.out.2.1.trans (hR.mono H3.out.2.1.size)
      clear hR hf h55
      generalize wy = w4 at z4 b4 ⊢
      have zE := z4
      have bE := b4
      obtain ⟨e0, e1, e2⟩ := zE.cells
      have g0 := zE.frozen 0
      have g1 := zE.frozen 1
      have g2 := zE.frozen 2
      obtain ⟨W8, hW8⟩ : ∃ z, ((w4.setCell ⟨w.heap.size, 0, none⟩ (.bool false)).setCell ⟨w.heap.size, 1, none⟩ (.int .u32 0)).setCell ⟨w.heap.size, 2, none⟩ (.slice none 0 0) = z := ⟨_, rfl⟩
      have i8 := st3_in zE (.bool false) (.int .u32 0) (.slice none 0 0)
      have g8 := st3_grown w4 w.heap.size (.bool false) (.int .u32 0) (.slice none 0 0)
      rw [show st3 w4 w.heap.size (.bool false) (.int .u32 0) (.slice none 0 0) = W8 from hW8] at i8 g8
      have HE : Hid (post (.returned (.tuple #[.agg #[.bool false, .int .u32 0, .slice none 0 0], .int .i64 103])) W8) := HER.out W8 103 (HPE.out) (by decide) (bE.grown g8 bE.size (fun k e => by injection e with e; omega))
      obtain ⟨s0, s1, s2⟩ := i8.cells
      clear zE bE g8 i8 z4 b4
      go_wp2
      refine bodyPost_ret (v := .tuple #[.agg #[.bool false, .int .u32 0, .slice none 0 0], .int .i64 103]) ?_ rfl HE.out
      rw [results_cell_tmp rfl]; simp [go_sem, s0, s1, s2]
    | true =>
    rw [hB2] at u2 v2 HFO
    have v2 : (XC.toList != XD.toList) = false := v2
    have HFO : Hid (formOk l = true) := HFO
    go_wp2
    refine wp_region_slots (R := Ext) [⟨44, fun v _ => v = .string S, fun _ _ _ _ h => h⟩, ⟨45, fun v _ => v = .string XA, fun _ _ _ _ h => h⟩, ⟨46, fun v _ => v = .string X, fun _ _ _ _ h => h⟩, ⟨47, fun v _ => v = .string XB, fun _ _ _ _ h => h⟩, ⟨48, fun v _ => v = .bool false, fun _ _ _ _ h => h⟩, ⟨49, fun v _ => v = .bool false, fun _ _ _ _ h => h⟩, ⟨50, fun v _ => v = .string S, fun _ _ _ _ h => h⟩, ⟨51, fun v _ => v = .string XC, fun _ _ _ _ h => h⟩, ⟨52, fun v _ => v = .string X, fun _ _ _ _ h => h⟩, ⟨53, fun v _ => v = .string XD, fun _ _ _ _ h => h⟩, ⟨54, fun v _ => v = .bool false, fun _ _ _ _ h => h⟩, ⟨55, fun v _ => v = .bool false, fun _ _ _ _ h => h⟩] _ (by kernel_rfl) rfl (by kernel_rfl) (Below.drew (Below.refl _ _)) (fun _ _ _ h1 h2 => below_tr h1 h2) (fun QQ => ⟨?_, ?_, ?_, ?_, ?_, ?_, ?_, ?_, ?_, ?_, ?_, ?_, trivial⟩) (fun f wy hR hf => ?_)
    · intro A wx hR hout hdep K hK
      have h0 : A.tmps[0]?.getD undef = .string S := hout 0 (by kernel_rfl)
      refine if_yes (by kernel_rfl) ?_
      simp [go_sem, h0, sl1, sl2, sl3, sl4, u1, u2, v1, v2]
      exact hK.out _ _ (Below.refl _ _) rfl
    · intro A wx hR hout hdep K hK
      have h44 : A.tmps[44]?.getD undef = .string S := hdep 44 (by kernel_rfl)
      refine if_yes (by kernel_rfl) ?_
      simp [go_sem, h44, sl1, sl2, sl3, sl4, u1, u2, v1, v2]
      exact hK.out _ _ (Below.refl _ _) rfl
    · intro A wx hR hout hdep K hK
      have h7 : A.tmps[7]?.getD undef = .string X := hout 7 (by kernel_rfl)
      refine if_yes (by kernel_rfl) ?_
      simp [go_sem, h7, sl1, sl2, sl3, sl4, u1, u2, v1, v2]
      exact hK.out _ _ (Below.refl _ _) rfl
    · intro A wx hR hout hdep K hK
      have h46 : A.tmps[46]?.getD undef = .string X := hdep 46 (by kernel_rfl)
      refine if_yes (by kernel_rfl) ?_
      simp [go_sem, h46, sl1, sl2, sl3, sl4, u1, u2, v1, v2]
      exact hK.out _ _ (Below.refl _ _) rfl
    · intro A wx hR hout hdep K hK
      have h45 : A.tmps[45]?.getD undef = .string XA := hdep 45 (by kernel_rfl)
      have h47 : A.tmps[47]?.getD undef = .string XB := hdep 47 (by kernel_rfl)
      refine if_yes (by kernel_rfl) ?_
      simp [go_sem, h45, h47, sl1, sl2, sl3, sl4, u1, u2, v1, v2]
      exact hK.out _ _ (Below.refl _ _) rfl
    · intro A wx hR hout hdep K hK
      have h48 : A.tmps[48]?.getD undef = .bool false := hdep 48 (by kernel_rfl)
      refine if_yes (by kernel_rfl) ?_
      simp [go_sem, h48, sl1, sl2, sl3, sl4, u1, u2, v1, v2]
      exact hK.out _ _ (Below.refl _ _) rfl
    · intro A wx hR hout hdep K hK
      have h0 : A.tmps[0]?.getD undef = .string S := hout 0 (by kernel_rfl)
      have h49 : A.tmps[49]?.getD undef = .bool false := hdep 49 (by kernel_rfl)
      refine if_yes ((wanted_is (j := 5) (b := false) (by kernel_rfl) (by kernel_rfl) h49).trans rfl) ?_
      simp [go_sem, h0, sl1, sl2, sl3, sl4, u1, u2, v1, v2]
      exact hK.out _ _ (Below.refl _ _) rfl
    · intro A wx hR hout hdep K hK
      have h50 : A.tmps[50]?.getD undef = .string S := hdep 50 (by kernel_rfl)
      have h49 : A.tmps[49]?.getD undef = .bool false := hdep 49 (by kernel_rfl)
      refine if_yes ((wanted_is (j := 5) (b := false) (by kernel_rfl) (by kernel_rfl) h49).trans rfl) ?_
      simp [go_sem, h50, sl1, sl2, sl3, sl4, u1, u2, v1, v2]
      exact hK.out _ _ (Below.refl _ _) rfl
    · intro A wx hR hout hdep K hK
      have h7 : A.tmps[7]?.getD undef = .string X := hout 7 (by kernel_rfl)
      have h49 : A.tmps[49]?.getD undef = .bool false := hdep 49 (by kernel_rfl)
      refine if_yes ((wanted_is (j := 5) (b := false) (by kernel_rfl) (by kernel_rfl) h49).trans rfl) ?_
      simp [go_sem, h7, sl1, sl2, sl3, sl4, u1, u2, v1, v2]
      exact hK.out _ _ (Below.refl _ _) rfl
    · intro A wx hR hout hdep K hK
      have h52 : A.tmps[52]?.getD undef = .string X := hdep 52 (by kernel_rfl)
      have h49 : A.tmps[49]?.getD undef = .bool false := hdep 49 (by kernel_rfl)
      refine if_yes ((wanted_is (j := 5) (b := false) (by kernel_rfl) (by kernel_rfl) h49).trans rfl) ?_
      simp [go_sem, h52, sl1, sl2, sl3, sl4, u1, u2, v1, v2]
      exact hK.out _ _ (Below.refl _ _) rfl
    · intro A wx hR hout hdep K hK
      have h51 : A.tmps[51]?.getD undef = .string XC := hdep 51 (by kernel_rfl)
      have h53 : A.tmps[53]?.getD undef = .string XD := hdep 53 (by kernel_rfl)
      have h49 : A.tmps[49]?.getD undef = .bool false := hdep 49 (by kernel_rfl)
      refine if_yes ((wanted_is (j := 5) (b := false) (by kernel_rfl) (by kernel_rfl) h49).trans rfl) ?_
      simp [go_sem, h51, h53, sl1, sl2, sl3, sl4, u1, u2, v1, v2]
      exact hK.out _ _ (Below.refl _ _) rfl
    · intro A wx hR hout hdep K hK
      have h49 : A.tmps[49]?.getD undef = .bool false := hdep 49 (by kernel_rfl)
      have h54 : A.tmps[54]?.getD undef = .bool false := hdep 54 (by kernel_rfl)
      refine if_yes (by kernel_rfl) ?_
      simp [go_sem, h49, h54, sl1, sl2, sl3, sl4, u1, u2, v1, v2]
      exact hK.out _ _ (Below.refl _ _) rfl
    have h55 : f 55 = .bool false := hf 55 (by kernel_rfl)
    simp only [putSl, Act.put, List.setIfInBounds_toArray, List.set_cons_zero, List.set_cons_succ, h55]
    have hq := hR
    clear hR hf h55
    generalize wy = w4 at hq ⊢
    have H4 : Hid (PdI w x3.heap.size w4.heap.size SH EN l 0 none 0 w4) := by
      obtain ⟨k1, k2, k3, k4⟩ := H3.out
      have e4 := k3.keep hq
      exact ⟨k2.trans (hq.mono k2.size), k1.keep hq, e4, ⟨by simp, Or.inl ⟨rfl, by simp⟩⟩, Nat.le_refl _, k4, e4.lt⟩
    clear hq H3
    by_cases hcut : l.length < 52 + 32 * NN
    · have dc : (S.size : Int) < 52 + 32 * (NN : Int) := by have := HLEN.out.1; omega
      have HPE : Hid (parE l = 101) := hd_cut HLEN.out.2.1 HLEN.out.2.2.1 HFO.out (by rw [← HSE.out.2.2.1]; exact hcut)
      have z4 := H4.out.z0
      have b4 := H4.out.bw
      clear hcut
      have zE := z4
      have bE := b4
      obtain ⟨e0, e1, e2⟩ := zE.cells
      have g0 := zE.frozen 0
      have g1 := zE.frozen 1
      have g2 := zE.frozen 2
      obtain ⟨W8, hW8⟩ : ∃ z, ((w4.setCell ⟨w.heap.size, 0, none⟩ (.bool false)).setCell ⟨w.heap.size, 1, none⟩ (.int .u32 0)).setCell ⟨w.heap.size, 2, none⟩ (.slice none 0 0) = z := ⟨_, rfl⟩
      have i8 := st3_in zE (.bool false) (.int .u32 0) (.slice none 0 0)
      have g8 := st3_grown w4 w.heap.size (.bool false) (.int .u32 0) (.slice none 0 0)
      rw [show st3 w4 w.heap.size (.bool false) (.int .u32 0) (.slice none 0 0) = W8 from hW8] at i8 g8
      have HE : Hid (post (.returned (.tuple #[.agg #[.bool false, .int .u32 0, .slice none 0 0], .int .i64 101])) W8) := HER.out W8 101 (HPE.out) (by decide) (bE.grown g8 bE.size (fun k e => by injection e with e; omega))
      obtain ⟨s0, s1, s2⟩ := i8.cells
      clear zE bE g8 i8 z4 b4
      go_wp2
      refine bodyPost_ret (v := .tuple #[.agg #[.bool false, .int .u32 0, .slice none 0 0], .int .i64 101]) ?_ rfl HE.out
      rw [results_cell_tmp rfl]; simp [go_sem, s0, s1, s2]
    have dc : ¬ (S.size : Int) < 52 + 32 * (NN : Int) := by have := HLEN.out.1; omega
    have HC : Hid (¬ l.length < 52 + 32 * hf l 44) := by rw [← HSE.out.2.2.1]; exact hcut
    have HC2 : Hid (52 + 32 * NN ≤ l.length) := Nat.le_of_not_lt hcut
    go_wp2
    generalize x3.heap.size = N2 at H4 ⊢
    generalize hBB : w4.heap.size = BB at H4
    clear hBB hcut u1 u2 v1 v2 t0 t1 sl1 sl2 sl3 sl4
    go_loopw [8] (fun x wr => ∃ (k : Nat) (sa : Option Addr) (sc : Nat), x = .int .i64 (k : Int) ∧ k ≤ NN ∧ (∀ i, i < k → segOkD (l.drop (52 + 32 * i)) = true) ∧ PdI w N2 BB SH EN l k sa sc wr) (fun x _ => NN - (intOf x).toNat)
    case atStart => exact ⟨0, none, 0, rfl, Nat.zero_le _, fun i h => absurd h (Nat.not_lt_zero _), H4.out⟩
    case round =>
      obtain ⟨k, sa, sc, rfl, hk, hok, hI⟩ := hrel
      have HI : Hid (PdI w N2 BB SH EN l k sa sc wr) := hI
      have HOKS : Hid (∀ i, i < k → segOkD (l.drop (52 + 32 * i)) = true) := hok
      clear hok hI
      by_cases hlt : k < NN
      · have hlti : (k : Int) < (NN : Int) := by omega
        have ik : (k : Int) ≤ 16 := by omega
        obtain ⟨AT, hAT⟩ : ∃ a, a = 52 + 32 * k := ⟨_, rfl⟩
        have eAT : (52 : Int) + 32 * (k : Int) = (AT : Int) := by omega
        have iAT : (AT : Int) ≤ 1000 := by omega
        have iAT0 : (0 : Int) ≤ (AT : Int) := by omega
        have Q0 := fun w' => KWD.out k 0 w' hlt HC2.out (by decide)
        rw [show ((52 + 32 * k + 0 : Nat) : Int) = (AT : Int) from by omega] at Q0
        have Q4 := fun w' => KWD.out k 4 w' hlt HC2.out (by decide)
        rw [show ((52 + 32 * k + 4 : Nat) : Int) = (AT : Int) + 4 from by omega] at Q4
        have Q8 := fun w' => KWD.out k 8 w' hlt HC2.out (by decide)
        rw [show ((52 + 32 * k + 8 : Nat) : Int) = (AT : Int) + 8 from by omega] at Q8
        have Q12 := fun w' => KWD.out k 12 w' hlt HC2.out (by decide)
        rw [show ((52 + 32 * k + 12 : Nat) : Int) = (AT : Int) + 12 from by omega] at Q12
        have Q16 := fun w' => KWD.out k 16 w' hlt HC2.out (by decide)
        rw [show ((52 + 32 * k + 16 : Nat) : Int) = (AT : Int) + 16 from by omega] at Q16
        have Q20 := fun w' => KWD.out k 20 w' hlt HC2.out (by decide)
        rw [show ((52 + 32 * k + 20 : Nat) : Int) = (AT : Int) + 20 from by omega] at Q20
        have Q24 := fun w' => KWD.out k 24 w' hlt HC2.out (by decide)
        rw [show ((52 + 32 * k + 24 : Nat) : Int) = (AT : Int) + 24 from by omega] at Q24
        have Q28 := fun w' => KWD.out k 28 w' hlt HC2.out (by decide)
        rw [show ((52 + 32 * k + 28 : Nat) : Int) = (AT : Int) + 28 from by omega] at Q28
        obtain ⟨XL, hXL⟩ : ∃ x, x = l.drop (52 + 32 * k) := ⟨_, rfl⟩
        rw [← hXL] at Q0 Q4 Q8 Q12 Q16 Q20 Q24 Q28
        have HSD : Hid (segOkD XL = (((wd XL 8 == wd XL 12) && decide (wd XL 24 ≤ 7)) && decide (wd XL 0 ≤ 3))) := rfl
        have HSB : Hid (segOkD XL = false → parE l = 103) := fun h => hd_seg HLEN.out.2.1 HLEN.out.2.2.1 HFO.out HC.out k (by rw [← HSE.out.2.2.1]; exact hlt) (by rw [← hXL]; exact h)
        have HSG : Hid (segN XL = ⟨(wd XL 0 : Int), wd XL 4, wd XL 8, wd XL 16, wd XL 20, (protN (wd XL 24) : Int), wd XL 28⟩) := rfl
        have HXL : Hid (XL = l.drop (52 + 32 * k)) := hXL
        have l24 := wd_lt XL 24
        have l0 := wd_lt XL 0
        have QP := fun w' => rprots12 (wd XL 24) l24 w'
        have p7 := protN_le (wd XL 24)
        generalize wd XL 24 = F24 at *
        generalize wd XL 0 = K0 at *
        generalize wd XL 4 = A4 at *
        generalize wd XL 8 = A8 at *
        generalize wd XL 12 = A12 at *
        generalize wd XL 16 = A16 at *
        generalize wd XL 20 = A20 at *
        generalize wd XL 28 = A28 at *
        generalize protN F24 = PF at *
        have iK : (K0 : Int) < 4294967296 := by omega
        clear hAT hXL l24 l0
        by_cases g1 : A8 = A12
        rotate_left
        · have n1 : ((A8 : Int) != (A12 : Int)) = true := by rw [bne_iff_ne]; intro h; exact g1 (by omega)
          have HPE : Hid (parE l = 103) := HSB.out (by rw [HSD.out, beq_eq_false_iff_ne.2 g1]; rfl)
          clear g1 Q4 Q16 Q20 Q28 QP
          go_wp2_with fail
          refine (Q24 wr).mono ?_
          rintro e y1 ⟨rfl, rfl⟩
          go_wp2_with fail
          refine (Q0 y1).mono ?_
          rintro e y2 ⟨rfl, rfl⟩
          go_wp2_with fail
          refine (Q8 y2).mono ?_
          rintro e y3 ⟨rfl, rfl⟩
          go_wp2_with fail
          refine (Q12 y3).mono ?_
          rintro e y4 ⟨rfl, rfl⟩
          clear eAT iAT iAT0 ik hlti p7 iK hNlt n52 n52' i52 zX dc d16 hN hlt hk
          have zE := HI.out.z0
          have bE := HI.out.bw
          obtain ⟨e0, e1, e2⟩ := zE.cells
          have g0 := zE.frozen 0
          have g1 := zE.frozen 1
          have g2 := zE.frozen 2
          obtain ⟨W8, hW8⟩ : ∃ z, ((y4.setCell ⟨w.heap.size, 0, none⟩ (.bool false)).setCell ⟨w.heap.size, 1, none⟩ (.int .u32 0)).setCell ⟨w.heap.size, 2, none⟩ (.slice none 0 0) = z := ⟨_, rfl⟩
          have i8 := st3_in zE (.bool false) (.int .u32 0) (.slice none 0 0)
          have g8 := st3_grown y4 w.heap.size (.bool false) (.int .u32 0) (.slice none 0 0)
          rw [show st3 y4 w.heap.size (.bool false) (.int .u32 0) (.slice none 0 0) = W8 from hW8] at i8 g8
          have HE : Hid (post (.returned (.tuple #[.agg #[.bool false, .int .u32 0, .slice none 0 0], .int .i64 103])) W8) := HER.out W8 103 (HPE.out) (by decide) (bE.grown g8 bE.size (fun k e => by injection e with e; omega))
          obtain ⟨s0, s1, s2⟩ := i8.cells
          clear zE bE g8 i8
          go_wp2
          refine bodyPost_ret (v := .tuple #[.agg #[.bool false, .int .u32 0, .slice none 0 0], .int .i64 103]) ?_ rfl HE.out
          rw [results_cell_tmp rfl]; simp [go_sem, s0, s1, s2]
        have n1 : ((A8 : Int) != (A12 : Int)) = false := by rw [g1]; exact bne_self_eq_false _
        by_cases g2 : F24 ≤ 7
        rotate_left
        · have d7 : (7 : Int) < (F24 : Int) := by omega
          have HPE : Hid (parE l = 103) := HSB.out (by rw [HSD.out, decide_eq_false g2, Bool.and_false]; rfl)
          have HG1 : Hid (A8 = A12) := g1
          clear g1 g2 Q4 Q16 Q20 Q28 QP
          go_wp2_with fail
          refine (Q24 wr).mono ?_
          rintro e y1 ⟨rfl, rfl⟩
          go_wp2_with fail
          refine (Q0 y1).mono ?_
          rintro e y2 ⟨rfl, rfl⟩
          go_wp2_with fail
          refine (Q8 y2).mono ?_
          rintro e y3 ⟨rfl, rfl⟩
          go_wp2_with fail
          refine (Q12 y3).mono ?_
          rintro e y4 ⟨rfl, rfl⟩
          clear eAT iAT iAT0 ik hlti p7 iK hNlt n52 n52' i52 zX dc d16 hN hlt hk
          have zE := HI.out.z0
          have bE := HI.out.bw
          obtain ⟨e0, e1, e2⟩ := zE.cells
          have g0 := zE.frozen 0
          have g1 := zE.frozen 1
          have g2 := zE.frozen 2
          obtain ⟨W8, hW8⟩ : ∃ z, ((y4.setCell ⟨w.heap.size, 0, none⟩ (.bool false)).setCell ⟨w.heap.size, 1, none⟩ (.int .u32 0)).setCell ⟨w.heap.size, 2, none⟩ (.slice none 0 0) = z := ⟨_, rfl⟩
          have i8 := st3_in zE (.bool false) (.int .u32 0) (.slice none 0 0)
          have g8 := st3_grown y4 w.heap.size (.bool false) (.int .u32 0) (.slice none 0 0)
          rw [show st3 y4 w.heap.size (.bool false) (.int .u32 0) (.slice none 0 0) = W8 from hW8] at i8 g8
          have HE : Hid (post (.returned (.tuple #[.agg #[.bool false, .int .u32 0, .slice none 0 0], .int .i64 103])) W8) := HER.out W8 103 (HPE.out) (by decide) (bE.grown g8 bE.size (fun k e => by injection e with e; omega))
          obtain ⟨s0, s1, s2⟩ := i8.cells
          clear zE bE g8 i8
          go_wp2
          refine bodyPost_ret (v := .tuple #[.agg #[.bool false, .int .u32 0, .slice none 0 0], .int .i64 103]) ?_ rfl HE.out
          rw [results_cell_tmp rfl]; simp [go_sem, s0, s1, s2]
        have d7 : ¬ (7 : Int) < (F24 : Int) := by omega
        by_cases g3 : K0 ≤ 3
        rotate_left
        · have d3 : (3 : Int) < (K0 : Int) := by omega
          have HPE : Hid (parE l = 103) := HSB.out (by rw [HSD.out, decide_eq_false g3, Bool.and_false])
          have HG1 : Hid (A8 = A12) := g1
          clear g1 g2 g3 Q4 Q16 Q20 Q28 QP
          go_wp2_with fail
          refine (Q24 wr).mono ?_
          rintro e y1 ⟨rfl, rfl⟩
          go_wp2_with fail
          refine (Q0 y1).mono ?_
          rintro e y2 ⟨rfl, rfl⟩
          go_wp2_with fail
          refine (Q8 y2).mono ?_
          rintro e y3 ⟨rfl, rfl⟩
          go_wp2_with fail
          refine (Q12 y3).mono ?_
          rintro e y4 ⟨rfl, rfl⟩
          clear eAT iAT iAT0 ik hlti p7 iK hNlt n52 n52' i52 zX dc d16 hN hlt hk
          have zE := HI.out.z0
          have bE := HI.out.bw
          obtain ⟨e0, e1, e2⟩ := zE.cells
          have g0 := zE.frozen 0
          have g1 := zE.frozen 1
          have g2 := zE.frozen 2
          obtain ⟨W8, hW8⟩ : ∃ z, ((y4.setCell ⟨w.heap.size, 0, none⟩ (.bool false)).setCell ⟨w.heap.size, 1, none⟩ (.int .u32 0)).setCell ⟨w.heap.size, 2, none⟩ (.slice none 0 0) = z := ⟨_, rfl⟩
          have i8 := st3_in zE (.bool false) (.int .u32 0) (.slice none 0 0)
          have g8 := st3_grown y4 w.heap.size (.bool false) (.int .u32 0) (.slice none 0 0)
          rw [show st3 y4 w.heap.size (.bool false) (.int .u32 0) (.slice none 0 0) = W8 from hW8] at i8 g8
          have HE : Hid (post (.returned (.tuple #[.agg #[.bool false, .int .u32 0, .slice none 0 0], .int .i64 103])) W8) := HER.out W8 103 (HPE.out) (by decide) (bE.grown g8 bE.size (fun k e => by injection e with e; omega))
          obtain ⟨s0, s1, s2⟩ := i8.cells
          clear zE bE g8 i8
          go_wp2
          refine bodyPost_ret (v := .tuple #[.agg #[.bool false, .int .u32 0, .slice none 0 0], .int .i64 103]) ?_ rfl HE.out
          rw [results_cell_tmp rfl]; simp [go_sem, s0, s1, s2]
        have d3 : ¬ (3 : Int) < (K0 : Int) := by omega
        have HNEW : Hid (segOkD XL = true) := by show _ = _; rw [HSD.out, g1, beq_self_eq_true, decide_eq_true g2, decide_eq_true g3]; rfl
        have iK3 : (K0 : Int) ≤ 3 := by omega
        have HLT : Hid (k < NN ∧ NN ≤ 16) := ⟨hlt, hN⟩
        clear g1 g2 g3
        go_wp2_with fail
        refine (Q24 wr).mono ?_
        rintro e y1 ⟨rfl, rfl⟩
        go_wp2_with fail
        refine (Q0 y1).mono ?_
        rintro e y2 ⟨rfl, rfl⟩
        go_wp2_with fail
        refine (Q8 y2).mono ?_
        rintro e y3 ⟨rfl, rfl⟩
        go_wp2_with fail
        refine (Q12 y3).mono ?_
        rintro e y4 ⟨rfl, rfl⟩
        clear eAT ik hlti p7 iK hNlt n52 n52' i52 zX dc d16 hN hlt hk
        go_wp2_with fail
        refine (Q4 y4).mono ?_
        rintro e y5 ⟨rfl, rfl⟩
        go_wp2_with fail
        refine (Q8 y5).mono ?_
        rintro e y6 ⟨rfl, rfl⟩
        go_wp2_with fail
        refine (Q16 y6).mono ?_
        rintro e y7 ⟨rfl, rfl⟩
        go_wp2_with fail
        refine (Q20 y7).mono ?_
        rintro e y8 ⟨rfl, rfl⟩
        go_wp2_with fail
        refine (QP y8).mono ?_
        rintro e y9 ⟨rfl, rfl⟩
        go_wp2_with fail
        refine (Q28 y9).mono ?_
        rintro e y10 ⟨rfl, rfl⟩
        obtain ⟨W5, hW5, hb5, hz5, r0, r1, r2, r3, r4, r5, r6⟩ := box7 y10 ⟨(K0 : Int), A4, A8, A16, A20, (PF : Int), A28⟩
        dsimp only at hW5 r0 r1 r2 r3 r4 r5 r6
        obtain ⟨W6, hW6⟩ : ∃ W6, W5.alloc (.cells #[.int .i64 (K0 : Int), .int .u32 (A4 : Int), .int .u32 (A8 : Int), .int .u32 (A16 : Int), .int .u32 (A20 : Int), .int .i64 (PF : Int), .int .u32 (A28 : Int)] 41) = W6 := ⟨_, rfl⟩
        have hb6 : Below W5.heap.size W5 W6 := by rw [← hW6]; exact (Below.refl _ _).alloc (Nat.le_refl _) _
        have h6 : W6.heap[W5.heap.size]? = some (.cells #[.int .i64 (K0 : Int), .int .u32 (A4 : Int), .int .u32 (A8 : Int), .int .u32 (A16 : Int), .int .u32 (A20 : Int), .int .i64 (PF : Int), .int .u32 (A28 : Int)] 41 (0, 0)) := by rw [← hW6]; exact World.alloc_heap_new W5 _
        have J5 := HI.out.keep hb5
        have c2 := J5.e.cells.2.2
        have J6 := J5.keep hb6
        have HJ6 : Hid (PdI w N2 BB SH EN l k sa sc W6) := J6
        have HTK : Hid (((segsAt l (hf l 44)).take (k + 1)).length = ((segsAt l (hf l 44)).take k).length + 1 ∧ ((segsAt l (hf l 44)).take (k + 1)).flatMap Sg.cells = ((segsAt l (hf l 44)).take k).flatMap Sg.cells ++ (⟨(K0 : Int), A4, A8, A16, A20, (PF : Int), A28⟩ : Sg).cells ∧ k < hf l 44) := by
          have hkk : k < hf l 44 := by rw [← HSE.out.2.2.1]; exact HLT.out.1
          have hkl : k < (segsAt l (hf l 44)).length := by rw [segsAt_len]; exact hkk
          refine ⟨?_, ?_, hkk⟩
          · rw [List.length_take, List.length_take, segsAt_len]; omega
          · rw [List.take_succ_eq_append_getElem hkl, List.flatMap_append, segsAt_get l _ k hkk, ← HXL.out, HSG.out]; simp
        obtain ⟨i0, hi1, hi2, hi3, hi4⟩ := info39
        have HC7 := cells7 W6 W5.heap.size ⟨(K0 : Int), A4, A8, A16, A20, (PF : Int), A28⟩ h6
        have how := HJ6.out.own
        have hsz6 := HJ6.out.sz
        have HOW : Hid (W6.ownsRow BB 41 7 (.slice sa k sc) ((segsAt l (hf l 44)).take k).length (((segsAt l (hf l 44)).take k).flatMap Sg.cells) ∧ BB ≤ W6.heap.size ∧ ∀ j u, ((⟨(K0 : Int), A4, A8, A16, A20, (PF : Int), A28⟩ : Sg).cells)[j]? = some u → W6.cell? ((⟨W5.heap.size, 0, none⟩ : Addr).add j) = some u) := ⟨how, hsz6, HC7⟩
        clear J5 J6 hb5 hb6 hz5 h6 how hsz6 HC7
        go_wp2_with (at_builtin; refine wpList_append_own _ rfl _ _ 35 rfl BB 41 i0 _ 7 40 Tryz.underlying35 hi1 hi2 hi3 hi4 rfl (by decide) _ _ _ rfl HOW.out.1 ⟨W5.heap.size, 0, none⟩ 1 1 (⟨(K0 : Int), A4, A8, A16, A20, (PF : Int), A28⟩ : Sg).cells rfl rfl HOW.out.2.2 ?_ ?_ ?_ HOW.out.2.1 ?_)
        · intro u hu; simp [Sg.cells] at hu; rcases hu with rfl | rfl | rfl | rfl | rfl | rfl | rfl <;> rfl
        · have := HLT.out; rw [List.length_take]; unfold maxLen; omega
        · have := HLT.out; rw [List.length_take]; omega
        intro sv w7 how7 hgr7 _
        have hn := HJ6.out.next HTK.out.2.2 hgr7 (by show w7.ownsRow _ _ _ _ _ _; rw [HTK.out.1, HTK.out.2.1, List.length_take]; exact how7)
        obtain ⟨⟨sa2, sc2, rfl⟩, hB3, hnx⟩ := hn
        have HNX : Hid (PdI w N2 BB SH EN l (k + 1) sa2 sc2 (w7.setCell ⟨N2, 2, none⟩ (.slice sa2 (k + 1) sc2))) := hnx sa2 sc2 rfl
        have c27 := hB3.cells.2.2
        have z27 := hB3.frozen 2
        have HALL : Hid (∀ i, i < k + 1 → segOkD (l.drop (52 + 32 * i)) = true) := fun i hi => by
          by_cases e : i = k
          · rw [e, ← HXL.out]; exact HNEW.out
          · exact HOKS.out i (by omega)
        clear hnx hB3 how7 hgr7 c2 r0 r1 r2 r3 r4 r5 r6 hW5 hW6 hi1 hi2 hi3 hi4
        have ik : (k : Int) ≤ 16 := by have := HLT.out; omega
        go_wp2
        have hlt := HLT.out.1
        go_roundw
        case rel => exact ⟨k + 1, sa2, sc2, by go_num, by omega, HALL.out, HNX.out⟩
        case measure => simp [intOf]; omega
      · have hke : k = NN := by omega
        subst hke
        have hown : OwnG BB wr (.slice sa k sc) (efAt l).segs := by
          have := HI.out.own
          rw [List.take_of_length_le (by rw [segsAt_len, ← HSE.out.2.2.1]; exact Nat.le_refl _)] at this
          exact this
        have KF := rfit14 (efAt l) (.slice sa k sc) wr hown.sl (segsAt_bd l _) (by rw [HES.out.1, segsAt_len, ← HSE.out.2.2.1]; omega)
        unfold Ef.val at KF
        rw [HES.out.2.1, HES.out.2.2] at KF
        have HOW : Hid (OwnG BB wr (.slice sa k sc) (efAt l).segs) := hown
        have HNN : Hid (k = hf l 44 ∧ k ≤ 16) := ⟨HSE.out.2.2.1, hN⟩
        obtain ⟨q0, q1, q2⟩ := HI.out.e.cells
        clear hown hNlt n52 n52' i52 zX dc d16 hlt hk hN
        cases hfe : fitE (efAt l) with
        | false =>
          rw [hfe] at KF
          have HPE : Hid (parE l = 103) := hd_unfit HLEN.out.2.1 HLEN.out.2.2.1 HFO.out HC.out hfe
          go_wp2_with fail
          refine KF.mono ?_
          rintro e w5 ⟨rfl, hb5⟩
          have HJ5 : Hid (PdI w N2 BB SH EN l k sa sc w5) := HI.out.keep hb5
          clear KF q0 q1 q2 hb5
          have zE := HJ5.out.z0
          have bE := HJ5.out.bw
          obtain ⟨e0, e1, e2⟩ := zE.cells
          have g0 := zE.frozen 0
          have g1 := zE.frozen 1
          have g2 := zE.frozen 2
          obtain ⟨W8, hW8⟩ : ∃ z, ((w5.setCell ⟨w.heap.size, 0, none⟩ (.bool false)).setCell ⟨w.heap.size, 1, none⟩ (.int .u32 0)).setCell ⟨w.heap.size, 2, none⟩ (.slice none 0 0) = z := ⟨_, rfl⟩
          have i8 := st3_in zE (.bool false) (.int .u32 0) (.slice none 0 0)
          have g8 := st3_grown w5 w.heap.size (.bool false) (.int .u32 0) (.slice none 0 0)
          rw [show st3 w5 w.heap.size (.bool false) (.int .u32 0) (.slice none 0 0) = W8 from hW8] at i8 g8
          have HE : Hid (post (.returned (.tuple #[.agg #[.bool false, .int .u32 0, .slice none 0 0], .int .i64 103])) W8) := HER.out W8 103 (HPE.out) (by decide) (bE.grown g8 bE.size (fun k e => by injection e with e; omega))
          obtain ⟨s0, s1, s2⟩ := i8.cells
          clear zE bE g8 i8
          go_wp2
          refine bodyPost_ret (v := .tuple #[.agg #[.bool false, .int .u32 0, .slice none 0 0], .int .i64 103]) ?_ rfl HE.out
          rw [results_cell_tmp rfl]; simp [go_sem, s0, s1, s2]
        | true =>
          rw [hfe] at KF
          have HPO : Hid (parE l = if (efAt l).segs.any (farS S.size) = true then 104 else 0) := by
            rw [HLEN.out.1]
            exact hd_ok HLEN.out.2.1 HLEN.out.2.2.1 HFO.out HC.out (fun i hi => HOKS.out i (by rw [HNN.out.1]; exact hi)) hfe
          go_wp2_with fail
          refine KF.mono ?_
          rintro e w5 ⟨rfl, hb5⟩
          have HJ5 : Hid (PdI w N2 BB SH EN l k sa sc w5 ∧ OwnG BB w5 (.slice sa k sc) (efAt l).segs) := ⟨HI.out.keep hb5, HOW.out.keep hb5⟩
          have HOKE : Hid (∀ w' v, parE l = 0 → OwnG w.heap.size w' v (efAt l).segs → Below w.heap.size w w' → post (.returned (.tuple #[.agg #[.bool SH, .int .u32 (EN : Int), v], .int .i64 0])) w') := fun w' v h1 h2 h3 => by
            have := HOK.out w' v h1 h2 h3
            rw [HES.out.2.1, HES.out.2.2] at this
            exact this
          clear KF q0 q1 q2 hb5 HOK
          obtain ⟨GS, hGS⟩ : ∃ g, g = (efAt l).segs := ⟨_, rfl⟩
          have HGL : Hid (GS.length = k) := by show _ = _; rw [hGS, HES.out.1, segsAt_len]; exact HNN.out.1.symm
          have HBD : Hid (∀ g ∈ GS, g.Bd) := by rw [hGS]; exact segsAt_bd l _
          rw [← hGS] at HJ5 HPO HOKE
          clear hGS hfe HOW
          go_wp2
          go_loopw [13] (fun x wr => ∃ i : Nat, x = .int .i64 (i : Int) ∧ i ≤ k ∧ (GS.take i).any (farS S.size) = false ∧ Below w5.heap.size w5 wr) (fun x _ => k - (intOf x).toNat)
          case atStart => exact ⟨0, rfl, Nat.zero_le _, rfl, Below.refl _ _⟩
          case round =>
            obtain ⟨i, rfl, hi, hany, hb6⟩ := hrel
            have HJ : Hid (PdI w N2 BB SH EN l k sa sc wr ∧ OwnG BB wr (.slice sa k sc) GS ∧ Below w5.heap.size w5 wr) := ⟨HJ5.out.1.keep hb6, HJ5.out.2.keep hb6, hb6⟩
            clear hb6
            by_cases hlt : i < k
            · have hlti : (i : Int) < (k : Int) := by omega
              have c2 := HJ.out.1.e.cells.2.2
              obtain ⟨ao', cap', he, _, _, _, h4⟩ := HJ.out.2.1.sl
              injection he with he1 he2 he3
              have hltg : i < GS.length := by rw [HGL.out]; exact hlt
              obtain ⟨b, o, hbo, h7⟩ := h4 i hltg
              rw [← he1] at hbo
              subst hbo
              obtain ⟨g, hg⟩ : ∃ g, g = GS[i] := ⟨_, rfl⟩
              have hmem : g ∈ GS := by rw [hg]; exact List.getElem_mem hltg
              have hbd := HBD.out g hmem
              rw [← hg] at h7
              have htk : (GS.take (i + 1)).any (farS S.size) = farS S.size g := by
                rw [List.take_succ_eq_append_getElem hltg, List.any_append, hany, hg]; simp
              have hfa : farS S.size g = decide ((S.size : Int) < (g.off : Int) + (g.size : Int)) := by unfold farS; rw [Bool.eq_iff_iff]; simp only [decide_eq_true_eq]; omega
              have HA : Hid ((GS.take (i + 1)).any (farS S.size) = farS S.size g ∧ (farS S.size g = true → GS.any (farS S.size) = true) ∧ farS S.size g = decide ((S.size : Int) < (g.off : Int) + (g.size : Int))) := ⟨htk, fun h => List.any_eq_true.2 ⟨g, hmem, h⟩, hfa⟩
              obtain ⟨r0, r1, r2, r3, r4, r5, r6⟩ := h7
              have io : (g.off : Int) < 4294967296 := by have := hbd.o; omega
              have is : (g.size : Int) < 4294967296 := by have := hbd.s; omega
              have iz : (S.size : Int) ≤ 1000000 := by have := HLEN.out.1; have := HLEN.out.2.2.2; omega
              clear htk hfa hany hg hmem hbd h4 he1 he2 he3 r0 r2 r4 r5 r6
              by_cases hfr : (S.size : Int) < (g.off : Int) + (g.size : Int)
              · have HPE : Hid (parE l = 104) := by show _ = _; rw [HPO.out, if_pos (HA.out.2.1 (by rw [HA.out.2.2]; exact decide_eq_true hfr))]
                go_wp2
                go_quiet (fail)
                generalize hw9 : wr.drewN nq = w9
                have hq : Below wr.heap.size wr w9 := by rw [← hw9]; exact below_drewN (Below.refl _ _) _
                have z9 := HJ.out.1.z0.keep hq
                have b9 := HJ.out.1.bw.trans (hq.mono HJ.out.1.bw.size)
                clear hq hw9 c2 r1 r3 io is iz
                have zE := z9
                have bE := b9
                obtain ⟨e0, e1, e2⟩ := zE.cells
                have g0 := zE.frozen 0
                have g1 := zE.frozen 1
                have g2 := zE.frozen 2
                obtain ⟨W8, hW8⟩ : ∃ z, ((w9.setCell ⟨w.heap.size, 0, none⟩ (.bool false)).setCell ⟨w.heap.size, 1, none⟩ (.int .u32 0)).setCell ⟨w.heap.size, 2, none⟩ (.slice none 0 0) = z := ⟨_, rfl⟩
                have i8 := st3_in zE (.bool false) (.int .u32 0) (.slice none 0 0)
                have g8 := st3_grown w9 w.heap.size (.bool false) (.int .u32 0) (.slice none 0 0)
                rw [show st3 w9 w.heap.size (.bool false) (.int .u32 0) (.slice none 0 0) = W8 from hW8] at i8 g8
                have HE : Hid (post (.returned (.tuple #[.agg #[.bool false, .int .u32 0, .slice none 0 0], .int .i64 104])) W8) := HER.out W8 104 (HPE.out) (by decide) (bE.grown g8 bE.size (fun k e => by injection e with e; omega))
                obtain ⟨s0, s1, s2⟩ := i8.cells
                clear zE bE g8 i8 z9 b9
                go_wp2
                refine bodyPost_ret (v := .tuple #[.agg #[.bool false, .int .u32 0, .slice none 0 0], .int .i64 104]) ?_ rfl HE.out
                rw [results_cell_tmp rfl]; simp [go_sem, s0, s1, s2]
              · have HNX : Hid ((GS.take (i + 1)).any (farS S.size) = false) := by show _ = _; rw [HA.out.1, HA.out.2.2, decide_eq_false hfr]
                have ik : (k : Int) ≤ 16 := by have := HNN.out.2; omega
                go_wp2
                go_quiet (fail)
                clear io is iz c2 r1 r3
                go_wp2
                go_roundw
                case rel => exact ⟨i + 1, by go_num, by omega, HNX.out, below_drewN HJ.out.2.2 _⟩
                case measure => simp [intOf]; omega
            · have hie : i = k := by omega
              subst hie
              have HP0 : Hid (parE l = 0) := by
                show _ = _
                rw [HPO.out, if_neg]
                rw [List.take_of_length_le (by rw [HGL.out]; exact Nat.le_refl _)] at hany
                rw [hany]
                decide
              obtain ⟨q0, q1, q2⟩ := HJ.out.1.e.cells
              have zE := HJ.out.1.z0
              obtain ⟨e0, e1, e2⟩ := zE.cells
              have g0 := zE.frozen 0
              have g1 := zE.frozen 1
              have g2 := zE.frozen 2
              obtain ⟨W8, hW8⟩ : ∃ z, ((wr.setCell ⟨w.heap.size, 0, none⟩ (.bool SH)).setCell ⟨w.heap.size, 1, none⟩ (.int .u32 (EN : Int))).setCell ⟨w.heap.size, 2, none⟩ (.slice sa i sc) = z := ⟨_, rfl⟩
              have i8 := st3_in zE (.bool SH) (.int .u32 (EN : Int)) (.slice sa i sc)
              have g8 := st3_grown wr w.heap.size (.bool SH) (.int .u32 (EN : Int)) (.slice sa i sc)
              rw [show st3 wr w.heap.size (.bool SH) (.int .u32 (EN : Int)) (.slice sa i sc) = W8 from hW8] at i8 g8
              have HE : Hid (post (.returned (.tuple #[.agg #[.bool SH, .int .u32 (EN : Int), .slice sa i sc], .int .i64 0])) W8) := by
                have o1 := HJ.out.1.o1; have o2 := HJ.out.1.o2
                exact HOKE.out W8 _ HP0.out ((HJ.out.2.1.row g8 (by omega)).base (by omega)) (HJ.out.1.bw.grown g8 HJ.out.1.bw.size (fun k e => by injection e with e; omega))
              obtain ⟨s0, s1, s2⟩ := i8.cells
              clear zE g8 i8 hany hlt hi
              go_wp2
              refine bodyPost_ret (v := .tuple #[.agg #[.bool SH, .int .u32 (EN : Int), .slice sa i sc], .int .i64 0]) ?_ rfl HE.out
              rw [results_cell_tmp rfl]; simp [go_sem, s0, s1, s2]
end Go.Proofs.YtgdflobcbhnimaaGreat.E
