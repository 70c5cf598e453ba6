/- What is proved here: a table: the program's Write. -/
import Derived.Test.YtmkfgoacbehhcaaNm
namespace Go.Proofs.Ytmkfgoacbehhcaa
open Go.RowKit
set_option linter.unusedVariables false
set_option linter.unusedSimpArgs false
set_option maxRecDepth 100000
def Tb.val (t : Tb) : Value := .agg #[.string ⟨t.syms.toArray⟩, .string ⟨t.strs.toArray⟩, .string ⟨t.hash.toArray⟩]
def zeroT : Tb := ⟨[], [], []⟩
/-- A table in a block. -/
def T3 (t : Tb) (b : Nat) (w : World) : Prop := w.heap[b]? = some (.cells #[.string ⟨t.syms.toArray⟩, .string ⟨t.strs.toArray⟩, .string ⟨t.hash.toArray⟩] 23 (0, 0))
theorem T3.lt {t : Tb} {b : Nat} {w : World} (h : T3 t b w) : b < w.heap.size := (Array.getElem?_eq_some_iff.1 h).1
theorem T3.cells {t : Tb} {b : Nat} {w : World} (h : T3 t b w) : w.cell? ⟨b, 0, none⟩ = some (.string ⟨t.syms.toArray⟩) ∧ w.cell? ⟨b, 1, none⟩ = some (.string ⟨t.strs.toArray⟩) ∧ w.cell? ⟨b, 2, none⟩ = some (.string ⟨t.hash.toArray⟩) := by
  have h' : w.heap[b]? = _ := h
  refine ⟨?_, ?_, ?_⟩ <;> simp [World.cell?, h']
theorem T3.frozen {t : Tb} {b : Nat} {w : World} (h : T3 t b w) (k : Nat) : w.frozen? ⟨b, k, none⟩ = false := by
  have h' : w.heap[b]? = _ := h
  simp [World.frozen?, h']
theorem T3.row {t : Tb} {b : Nat} {w w' : World} {row : Option Nat} (h : T3 t b w) (hg : w.grownBy w' row) (hr : some b ≠ row) : T3 t b w' := (hg.block b h.lt hr).trans h
theorem T3.keep {t : Tb} {b : Nat} {w w' : World} (h : T3 t b w) (hb : Below w.heap.size w w') : T3 t b w' := (hb.block b h.lt).trans h
theorem T3.new (t : Tb) (w : World) : T3 t w.heap.size (w.alloc (.cells #[.string ⟨t.syms.toArray⟩, .string ⟨t.strs.toArray⟩, .string ⟨t.hash.toArray⟩] 23)) := World.alloc_heap_new w _
def st3 (w : World) (b : Nat) (t : Tb) : World := ((w.setCell ⟨b, 0, none⟩ (.string ⟨t.syms.toArray⟩)).setCell ⟨b, 1, none⟩ (.string ⟨t.strs.toArray⟩)).setCell ⟨b, 2, none⟩ (.string ⟨t.hash.toArray⟩)
theorem st3_in {w : World} {b : Nat} {j : Tb} (h : T3 j b w) (t : Tb) : T3 t b (st3 w b t) := by
  unfold st3
  have h0 := blk_set h 0 (.string ⟨t.syms.toArray⟩)
  have h1 := blk_set h0 1 (.string ⟨t.strs.toArray⟩)
  have h2 := blk_set h1 2 (.string ⟨t.hash.toArray⟩)
  simpa [T3] using h2
theorem st3_grown (w : World) (b : Nat) (t : Tb) : w.grownBy (st3 w b t) (some b) :=
  gb_trans (gb_trans (grown_setk _ b 0 _) (grown_setk _ b 1 _)) (grown_setk _ b 2 _)
/-- A new table, stored. -/
theorem new3 (w : World) (t : Tb) : ∃ V W, w.alloc (.cells #[.string ⟨#[]⟩, .string ⟨#[]⟩, .string ⟨#[]⟩] 23) = V ∧ ((V.setCell ⟨w.heap.size, 0, none⟩ (.string ⟨t.syms.toArray⟩)).setCell ⟨w.heap.size, 1, none⟩ (.string ⟨t.strs.toArray⟩)).setCell ⟨w.heap.size, 2, none⟩ (.string ⟨t.hash.toArray⟩) = W ∧
    (V.cell? ⟨w.heap.size, 0, none⟩ = some (.string ⟨#[]⟩) ∧ V.cell? ⟨w.heap.size, 1, none⟩ = some (.string ⟨#[]⟩) ∧ V.cell? ⟨w.heap.size, 2, none⟩ = some (.string ⟨#[]⟩)) ∧
    (V.frozen? ⟨w.heap.size, 0, none⟩ = false ∧ V.frozen? ⟨w.heap.size, 1, none⟩ = false ∧ V.frozen? ⟨w.heap.size, 2, none⟩ = false) ∧
    T3 t w.heap.size W ∧ Below w.heap.size w W ∧ w.heap.size < W.heap.size := by
  have ev : T3 zeroT w.heap.size (w.alloc (.cells #[.string ⟨#[]⟩, .string ⟨#[]⟩, .string ⟨#[]⟩] 23)) := World.alloc_heap_new w _
  have i := st3_in ev t
  have hb : Below w.heap.size w (w.alloc (.cells #[.string ⟨#[]⟩, .string ⟨#[]⟩, .string ⟨#[]⟩] 23)) := (Below.refl _ _).alloc (Nat.le_refl _) _
  refine ⟨_, _, rfl, rfl, ev.cells, ⟨ev.frozen 0, ev.frozen 1, ev.frozen 2⟩, i, ((hb.setCell (p := ⟨w.heap.size, 0, none⟩) (Nat.le_refl _) _).setCell (p := ⟨w.heap.size, 1, none⟩) (Nat.le_refl _) _).setCell (p := ⟨w.heap.size, 2, none⟩) (Nat.le_refl _) _, i.lt⟩
set_option maxHeartbeats 2000000 in
theorem write18 (l : List Sy) (v : Value) (ways : Int) (w : World) (hs : SlY w v l) (hb : ∀ s ∈ l, s.Bd) (hn : l.length ≤ 1000000) :
    Calls Try.prog 18 #[v, .int .i64 ways] w fun e w' => e = .returned ((wrT l ways).val) ∧ Below w.heap.size w w' := by
  obtain ⟨W1, hW1⟩ : ∃ z, w.alloc (.cells #[.string ⟨#[]⟩, .string ⟨#[]⟩, .string ⟨#[]⟩] 23) = z := ⟨_, rfl⟩
  have hb1 : Below w.heap.size w W1 := by rw [← hW1]; exact (Below.refl _ _).alloc (Nat.le_refl _) _
  have HZ : Hid (T3 zeroT w.heap.size W1 ∧ Below w.heap.size w W1) := by rw [← hW1]; exact ⟨T3.new zeroT w, by rw [hW1]; exact hb1⟩
  have K16 := fit16 l v W1 (hs.keep hb1) hn
  have HS : Hid (∀ w', Below w.heap.size w w' → SlY w' v l) := fun w' h => hs.keep h
  have HBD : Hid (∀ s ∈ l, s.Bd) := hb
  obtain ⟨ao, cap, rfl, _⟩ := id hs
  clear hs hb hb1
  cases hf : fitL l with
  | false =>
    have HE : Hid (wrT l ways = zeroT) := by
      show _ = _
      unfold wrT okW
      rw [hf]; rfl
    rw [hf] at K16
    clear hf
    go_enter Try.func18, Try.ntmps18
    go_wp2_with fail
    refine K16.mono ?_
    rintro e w2 ⟨rfl, hb2⟩
    have zz := HZ.out.1.keep hb2
    have HBX : Hid (Below w.heap.size w w2) := HZ.out.2.trans (hb2.mono HZ.out.2.size)
    clear K16 hW1 hb2
    obtain ⟨q0, q1, q2⟩ := zz.cells
    have f0 := zz.frozen 0
    have f1 := zz.frozen 1
    have f2 := zz.frozen 2
    obtain ⟨W9, hW9⟩ : ∃ z, ((w2.setCell ⟨w.heap.size, 0, none⟩ (.string ⟨#[]⟩)).setCell ⟨w.heap.size, 1, none⟩ (.string ⟨#[]⟩)).setCell ⟨w.heap.size, 2, none⟩ (.string ⟨#[]⟩) = z := ⟨_, rfl⟩
    have g9 := st3_grown w2 w.heap.size zeroT
    have i9 := st3_in zz zeroT
    rw [show st3 w2 w.heap.size zeroT = W9 from hW9] at g9 i9
    have hc9 : W9.cell? ⟨w.heap.size, 0, none⟩ = some (.string ⟨#[]⟩) ∧ W9.cell? ⟨w.heap.size, 1, none⟩ = some (.string ⟨#[]⟩) ∧ W9.cell? ⟨w.heap.size, 2, none⟩ = some (.string ⟨#[]⟩) := i9.cells
    obtain ⟨s0, s1, s2⟩ := hc9
    have HB9 : Hid (Below w.heap.size w W9) := HBX.out.grown g9 HBX.out.size (fun k e => by injection e with e; omega)
    clear zz g9 i9
    go_wp2
    refine bodyPost_ret (v := .agg #[.string ⟨#[]⟩, .string ⟨#[]⟩, .string ⟨#[]⟩]) ?_ rfl ?_
    · rw [results_cell1 rfl]; simp [go_sem, s0, s1, s2]
    · exact ⟨by rw [HE.out]; rfl, HB9.out⟩
  | true =>
    rw [hf] at K16
    have HFT : Hid ((∀ s ∈ l, FitY s) ∧ l.length ≤ 200 ∧ fitL l = true) := ⟨(fitL_parts hf).2, (fitL_parts hf).1, hf⟩
    clear hf
    by_cases h1 : ways < 1
    · have d1 := decide_eq_true h1
      have HE : Hid (wrT l ways = zeroT) := by
        show _ = _
        unfold wrT okW
        rw [decide_eq_false (by omega), Bool.and_false]; rfl
      go_enter Try.func18, Try.ntmps18
      go_wp2_with fail
      refine K16.mono ?_
      rintro e w2 ⟨rfl, hb2⟩
      have zz := HZ.out.1.keep hb2
      have HBX : Hid (Below w.heap.size w w2) := HZ.out.2.trans (hb2.mono HZ.out.2.size)
      clear K16 hW1 hb2
      obtain ⟨q0, q1, q2⟩ := zz.cells
      have f0 := zz.frozen 0
      have f1 := zz.frozen 1
      have f2 := zz.frozen 2
      obtain ⟨W9, hW9⟩ : ∃ z, ((w2.setCell ⟨w.heap.size, 0, none⟩ (.string ⟨#[]⟩)).setCell ⟨w.heap.size, 1, none⟩ (.string ⟨#[]⟩)).setCell ⟨w.heap.size, 2, none⟩ (.string ⟨#[]⟩) = z := ⟨_, rfl⟩
      have g9 := st3_grown w2 w.heap.size zeroT
      have i9 := st3_in zz zeroT
      rw [show st3 w2 w.heap.size zeroT = W9 from hW9] at g9 i9
      have hc9 : W9.cell? ⟨w.heap.size, 0, none⟩ = some (.string ⟨#[]⟩) ∧ W9.cell? ⟨w.heap.size, 1, none⟩ = some (.string ⟨#[]⟩) ∧ W9.cell? ⟨w.heap.size, 2, none⟩ = some (.string ⟨#[]⟩) := i9.cells
      obtain ⟨s0, s1, s2⟩ := hc9
      have HB9 : Hid (Below w.heap.size w W9) := HBX.out.grown g9 HBX.out.size (fun k e => by injection e with e; omega)
      clear zz g9 i9
      go_wp2
      refine bodyPost_ret (v := .agg #[.string ⟨#[]⟩, .string ⟨#[]⟩, .string ⟨#[]⟩]) ?_ rfl ?_
      · rw [results_cell1 rfl]; simp [go_sem, s0, s1, s2]
      · exact ⟨by rw [HE.out]; rfl, HB9.out⟩
    · have d1 := decide_eq_false h1
      by_cases h2 : 64 < ways
      · have d2 := decide_eq_true h2
        have HE : Hid (wrT l ways = zeroT) := by
          show _ = _
          unfold wrT okW
          rw [decide_eq_false (by omega), Bool.and_false]; rfl
        go_enter Try.func18, Try.ntmps18
        go_wp2_with fail
        refine K16.mono ?_
        rintro e w2 ⟨rfl, hb2⟩
        have zz := HZ.out.1.keep hb2
        have HBX : Hid (Below w.heap.size w w2) := HZ.out.2.trans (hb2.mono HZ.out.2.size)
        clear K16 hW1 hb2
        obtain ⟨q0, q1, q2⟩ := zz.cells
        have f0 := zz.frozen 0
        have f1 := zz.frozen 1
        have f2 := zz.frozen 2
        obtain ⟨W9, hW9⟩ : ∃ z, ((w2.setCell ⟨w.heap.size, 0, none⟩ (.string ⟨#[]⟩)).setCell ⟨w.heap.size, 1, none⟩ (.string ⟨#[]⟩)).setCell ⟨w.heap.size, 2, none⟩ (.string ⟨#[]⟩) = z := ⟨_, rfl⟩
        have g9 := st3_grown w2 w.heap.size zeroT
        have i9 := st3_in zz zeroT
        rw [show st3 w2 w.heap.size zeroT = W9 from hW9] at g9 i9
        have hc9 : W9.cell? ⟨w.heap.size, 0, none⟩ = some (.string ⟨#[]⟩) ∧ W9.cell? ⟨w.heap.size, 1, none⟩ = some (.string ⟨#[]⟩) ∧ W9.cell? ⟨w.heap.size, 2, none⟩ = some (.string ⟨#[]⟩) := i9.cells
        obtain ⟨s0, s1, s2⟩ := hc9
        have HB9 : Hid (Below w.heap.size w W9) := HBX.out.grown g9 HBX.out.size (fun k e => by injection e with e; omega)
        clear zz g9 i9
        go_wp2
        refine bodyPost_ret (v := .agg #[.string ⟨#[]⟩, .string ⟨#[]⟩, .string ⟨#[]⟩]) ?_ rfl ?_
        · rw [results_cell1 rfl]; simp [go_sem, s0, s1, s2]
        · exact ⟨by rw [HE.out]; rfl, HB9.out⟩
      · have d2 := decide_eq_false h2
        obtain ⟨wn, rfl⟩ := Int.eq_ofNat_of_zero_le (show 0 ≤ ways by omega)
        have HE : Hid (wrT l (wn : Int) = ⟨symsL l, strsL l, hashB l wn⟩) := by
          show _ = _
          unfold wrT okW
          rw [HFT.out.2.2, decide_eq_true (by omega)]; rfl
        have K29 : Hid (∀ w', Below w.heap.size w w' → Calls Try.prog 29 #[.slice ao l.length cap] w' fun e w'' => e = .returned (.tuple #[.string ⟨(symsL l).toArray⟩, .string ⟨(strsL l).toArray⟩]) ∧ Below w'.heap.size w' w'') := fun w' h => rows29 l _ w' (HS.out w' h) HBD.out HFT.out.1 HFT.out.2.1
        have K30 : Hid (∀ w', Below w.heap.size w w' → Calls Try.prog 30 #[.slice ao l.length cap, .int .i64 (wn : Int)] w' fun e w'' => e = .returned (.string ⟨(hashB l wn).toArray⟩) ∧ Below w'.heap.size w' w'') := fun w' h => chains30 l _ wn w' (HS.out w' h) HFT.out.1 HFT.out.2.1 (by omega) (by omega)
        obtain ⟨TT, hTT⟩ : ∃ t : Tb, t = ⟨symsL l, strsL l, hashB l wn⟩ := ⟨_, rfl⟩
        rw [← hTT] at HE
        have hs1 : symsL l = TT.syms := by rw [hTT]
        have hs2 : strsL l = TT.strs := by rw [hTT]
        have hs3 : hashB l wn = TT.hash := by rw [hTT]
        rw [hs1, hs2] at K29
        rw [hs3] at K30
        clear hTT hs1 hs2 hs3
        go_enter Try.func18, Try.ntmps18
        go_wp2_with fail
        refine K16.mono ?_
        rintro e w2 ⟨rfl, hb2⟩
        have H2 : Hid (T3 zeroT w.heap.size w2 ∧ Below w.heap.size w w2) := ⟨HZ.out.1.keep hb2, HZ.out.2.trans (hb2.mono HZ.out.2.size)⟩
        clear K16 hW1 hb2 HZ
        go_wp2_with fail
        refine (K29.out w2 H2.out.2).mono ?_
        rintro e w3 ⟨rfl, hb3⟩
        have H3 : Hid (T3 zeroT w.heap.size w3 ∧ Below w.heap.size w w3) := ⟨H2.out.1.keep hb3, H2.out.2.trans (hb3.mono H2.out.2.size)⟩
        clear hb3 H2
        go_wp2_with fail
        refine (K30.out w3 H3.out.2).mono ?_
        rintro e w4 ⟨rfl, hb4⟩
        have zz := H3.out.1.keep hb4
        have HBX : Hid (Below w.heap.size w w4) := H3.out.2.trans (hb4.mono H3.out.2.size)
        clear hb4 H3
        obtain ⟨q0, q1, q2⟩ := zz.cells
        have f0 := zz.frozen 0
        have f1 := zz.frozen 1
        have f2 := zz.frozen 2
        obtain ⟨W9, hW9⟩ : ∃ z, ((w4.setCell ⟨w.heap.size, 0, none⟩ (.string ⟨TT.syms.toArray⟩)).setCell ⟨w.heap.size, 1, none⟩ (.string ⟨TT.strs.toArray⟩)).setCell ⟨w.heap.size, 2, none⟩ (.string ⟨TT.hash.toArray⟩) = z := ⟨_, rfl⟩
        have g9 := st3_grown w4 w.heap.size TT
        have i9 := st3_in zz TT
        rw [show st3 w4 w.heap.size TT = W9 from hW9] at g9 i9
        have hc9 : W9.cell? ⟨w.heap.size, 0, none⟩ = some (.string ⟨TT.syms.toArray⟩) ∧ W9.cell? ⟨w.heap.size, 1, none⟩ = some (.string ⟨TT.strs.toArray⟩) ∧ W9.cell? ⟨w.heap.size, 2, none⟩ = some (.string ⟨TT.hash.toArray⟩) := i9.cells
        obtain ⟨s0, s1, s2⟩ := hc9
        have HB9 : Hid (Below w.heap.size w W9) := HBX.out.grown g9 HBX.out.size (fun k e => by injection e with e; omega)
        clear zz g9 i9
        go_wp2
        refine bodyPost_ret (v := .agg #[.string ⟨TT.syms.toArray⟩, .string ⟨TT.strs.toArray⟩, .string ⟨TT.hash.toArray⟩]) ?_ rfl ?_
        · rw [results_cell1 rfl]; simp [go_sem, s0, s1, s2]
        · exact ⟨by rw [HE.out]; rfl, HB9.out⟩
end Go.Proofs.Ytmkfgoacbehhcaa
