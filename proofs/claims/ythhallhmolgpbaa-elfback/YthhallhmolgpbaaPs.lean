/- What is proved here: a file's header is read, or what was thrown is caught: the program's Parse. -/
import Derived.Test.YthhallhmolgpbaaHs
import Derived.Defers
import Derived.Recover
import Derived.Laws.Pointers
namespace Go.Proofs.Ythhallhmolgpbaa
open Go.RowKit
set_option linter.unusedVariables false
set_option linter.unusedSimpArgs false
set_option maxRecDepth 100000
theorem own_nil (B : Nat) (w : World) : OwnG B w (.slice none 0 0) [] := ⟨by simp, Or.inl ⟨rfl, by simp⟩⟩
set_option maxHeartbeats 2000000 in
theorem parse19 (P0 : Nat) (l : L8) (hl : l.length ≤ 1000000) (w : World) (hc : w.cell? ⟨P0, 0, none⟩ = some (.string ⟨l.toArray⟩)) :
    Calls Try.prog 19 #[.pointer (some ⟨P0, 0, none⟩)] w fun e w' => ((parE l = 0 ∧ ∃ v, e = .returned ((efAt l).val v) ∧ OwnG w.heap.size w' v (efAt l).segs) ∨ (parE l ≠ 0 ∧ e = .panicked (thrown (parE l : Int)))) ∧ Below w.heap.size w w' := by
  obtain ⟨post, hpost⟩ : ∃ p : Ending → World → Prop, p = fun e w' => ((parE l = 0 ∧ ∃ v, e = .returned ((efAt l).val v) ∧ OwnG w.heap.size w' v (efAt l).segs) ∨ (parE l ≠ 0 ∧ e = .panicked (thrown (parE l : Int)))) ∧ Below w.heap.size w w' := ⟨_, rfl⟩
  rw [← hpost]
  have HY : Hid (∀ v w', parE l = 0 → OwnG w.heap.size w' v (efAt l).segs → Below w.heap.size w w' → post (.returned ((efAt l).val v)) w') := fun v w' h1 h2 h3 => by rw [hpost]; exact ⟨Or.inl ⟨h1, v, rfl, h2⟩, h3⟩
  have HN : Hid (∀ w', parE l ≠ 0 → Below w.heap.size w w' → post (.panicked (thrown (parE l : Int))) w') := fun w' h1 h2 => by rw [hpost]; exact ⟨Or.inr ⟨h1, rfl⟩, h2⟩
  clear hpost
  obtain ⟨W1, hW1⟩ : ∃ W1, w.alloc (.cells #[.bool false, .int .u32 0, .slice none 0 0] 26) = W1 := ⟨_, rfl⟩
  have hz1 : W1.heap.size = w.heap.size + 1 := by rw [← hW1]; simp
  have hb1 : Below w.heap.size w W1 := by rw [← hW1]; exact (Below.refl _ _).alloc (Nat.le_refl _) _
  have zz1 : Z3 w.heap.size W1 := by rw [← hW1]; exact World.alloc_heap_new w _
  have c1 := keep_cell hb1 hc
  have hP0 : P0 < w.heap.size := World.block_lt_of_cell? _ _ hc
  obtain ⟨S, hS⟩ : ∃ S : ByteArray, S = ⟨l.toArray⟩ := ⟨_, rfl⟩
  have hSz : S.size = l.length := by rw [← bt_len, hS, bal]
  rw [← hS] at c1 hc
  obtain ⟨W2, hW2⟩ : ∃ W2, W1.alloc (.cells #[.string S] 48) = W2 := ⟨_, rfl⟩
  have hb2 : Below W1.heap.size W1 W2 := by rw [← hW2]; exact (Below.refl _ _).alloc (Nat.le_refl _) _
  have hz2 : W2.heap.size = W1.heap.size + 1 := by rw [← hW2]; simp
  have hr2 : Rd W1.heap.size W2 l := by rw [← hW2, hS]; exact Boxed.new W1 48 _
  have K20 := header20 W1.heap.size l hl W2 hr2
  have c2 := keep_cell hb2 c1
  have H2 : Hid (Below w.heap.size w W2 ∧ Z3 w.heap.size W2 ∧ W2.cell? ⟨P0, 0, none⟩ = some (.string S) ∧ P0 < w.heap.size ∧ W1.heap.size = w.heap.size + 1 ∧ W2.heap.size = w.heap.size + 2) := ⟨below_tr hb1 hb2, zz1.keep hb2, c2, hP0, hz1, by omega⟩
  have HSZ : Hid (S.size = l.length ∧ l.length ≤ 1000000) := ⟨hSz, hl⟩
  clear hb1 hb2 zz1 hz1 hz2 hr2 c2 hP0 hS hSz hc hl
  go_enter Try.func19, Try.ntmps19
  go_wp2_with fail
  refine K20.mono ?_
  rintro e w3 ⟨h3, hg3⟩
  clear K20 hW1 hW2 c1
  have H3 : Hid (Below w.heap.size w w3 ∧ Z3 w.heap.size w3 ∧ w3.cell? ⟨P0, 0, none⟩ = some (.string S) ∧ w.heap.size < w3.heap.size) := by
    obtain ⟨k1, k2, k3, k4, k5, k6⟩ := H2.out
    have hs := hg3.size
    refine ⟨k1.grown hg3 (by omega) (fun k e => by injection e with e; omega), k2.row hg3 (by intro e; injection e with e; omega), ?_, by omega⟩
    have := hg3.block P0 (by omega) (by intro e; injection e with e; omega)
    exact (World.cell?_of_block (a := ⟨P0, 0, none⟩) this).trans k3
  rcases h3 with ⟨hd0, v, rfl, hown⟩ | ⟨hd0, rfl⟩
  · have howb : OwnG (w.heap.size + 1) w3 v (efAt l).segs := hown.base (by have := H2.out.2.2.2.2.2; omega)
    have HOW : Hid (OwnG (w.heap.size + 1) w3 v (efAt l).segs) := howb
    obtain ⟨sa, sc, rfl⟩ := howb.shape
    have HES : Hid ((efAt l).segs = segsAt l (hf l 44) ∧ (efAt l).shared = (hf l 16 == 3) ∧ (efAt l).entry = wd l 24) := ⟨rfl, rfl, rfl⟩
    obtain ⟨GS, hGS⟩ : ∃ g, g = (efAt l).segs := ⟨_, rfl⟩
    obtain ⟨SH, hSH⟩ : ∃ g, g = (efAt l).shared := ⟨_, rfl⟩
    obtain ⟨EN, hEN⟩ : ∃ g, g = (efAt l).entry := ⟨_, rfl⟩
    have hgl : GS.length ≤ 1000000 := by
      have := hf_lt l 44
      rw [hGS, HES.out.1, segsAt_len]; omega
    have hpe : parE l = if GS.any (farS S.size) = true then 104 else 0 := by rw [hGS, HSZ.out.1]; unfold parE; rw [if_pos hd0]
    have HBD : Hid (∀ g ∈ GS, g.Bd) := by rw [hGS]; exact segsAt_bd l _
    have HV : Hid (∀ v, (efAt l).val v = .agg #[.bool SH, .int .u32 (EN : Int), v]) := fun v => by rw [hSH, hEN]; rfl
    have HVS := HV.out (.slice sa (efAt l).segs.length sc)
    rw [HVS]
    rw [← hGS] at HOW HVS HY ⊢
    obtain ⟨W4, hW4, hb4, hz4, q0, q1, q2⟩ := box3 w3 (.bool SH) (.int .u32 (EN : Int)) (.slice sa GS.length sc) 26
    have eg := enters_of Try.func22 (by kernel_rfl) rfl
    have K21 := contains21_1 22 (.pointer (some ⟨P0, 0, none⟩)) GS (.slice sa GS.length sc) (farS S.size) W4 (HOW.out.keep hb4).sl hgl eg (fun w1 g hb hg => far22 g (HBD.out g hg) P0 S (by have := HSZ.out; omega) w1 (keep_cell hb (keep_cell hb4 H3.out.2.2.1)))
    have H4 : Hid (Below w.heap.size w W4 ∧ Z3 w.heap.size W4 ∧ OwnG (w.heap.size + 1) W4 (.slice sa GS.length sc) GS ∧ B3 (.bool SH) (.int .u32 (EN : Int)) (.slice sa GS.length sc) w3.heap.size W4 ∧ w.heap.size < w3.heap.size) := ⟨H3.out.1.trans (hb4.mono H3.out.1.size), H3.out.2.1.keep hb4, HOW.out.keep hb4, by rw [← hW4]; exact World.alloc_heap_new w3 _, H3.out.2.2.2⟩
    have HPE : Hid (parE l = if GS.any (farS S.size) = true then 104 else 0) := hpe
    clear hown howb hGS hSH hEN hgl hpe hb4 hz4 hd0 HVS hg3
    cases hany : GS.any (farS S.size) with
    | true =>
      rw [hany] at K21
      have hp104 : parE l = 104 := by rw [HPE.out, if_pos hany]
      have HQ := HN.out
      rw [hp104] at HQ
      have HQ : Hid (∀ w', (104 : Nat) ≠ 0 → Below w.heap.size w w' → post (.panicked (thrown ((104 : Nat) : Int))) w') := HQ
      clear hp104
      go_wp2_with fail
      refine K21.mono ?_
      rintro e w5 ⟨rfl, hb5⟩
      have HB5 : Hid (Below w.heap.size w w5) := H4.out.1.trans (hb5.mono H4.out.1.size)
      clear K21 hb5 q0 q1 q2 hW4
      go_wp2
      exact ⟨rfl, HQ.out w5 (by decide) HB5.out⟩
    | false =>
      rw [hany] at K21
      have HP0 : Hid (parE l = 0) := by show _ = _; rw [HPE.out, if_neg (by rw [hany]; decide)]
      go_wp2_with fail
      refine K21.mono ?_
      rintro e w5 ⟨rfl, hb5⟩
      clear K21 q0 q1 q2 hW4
      obtain ⟨k1, k2, k3, k4, k5⟩ := H4.out
      have z5 := k2.keep hb5
      have o5 := k3.keep hb5
      have e5 := k4.keep hb5
      have hbw : Below w.heap.size w w5 := k1.trans (hb5.mono k1.size)
      obtain ⟨q0, q1, q2⟩ := e5.cells
      obtain ⟨p0, p1, p2⟩ := z5.cells
      have f0 := z5.frozen 0
      have f1 := z5.frozen 1
      have f2 := z5.frozen 2
      obtain ⟨W8, hW8⟩ : ∃ z, ((w5.setCell ⟨w.heap.size, 0, none⟩ (.bool SH)).setCell ⟨w.heap.size, 1, none⟩ (.int .u32 (EN : Int))).setCell ⟨w.heap.size, 2, none⟩ (.slice sa GS.length sc) = z := ⟨_, rfl⟩
      have i8 := st3_in z5 (.bool SH) (.int .u32 (EN : Int)) (.slice sa GS.length sc)
      have g8 := st3_grown w5 w.heap.size (.bool SH) (.int .u32 (EN : Int)) (.slice sa GS.length sc)
      rw [show st3 w5 w.heap.size (.bool SH) (.int .u32 (EN : Int)) (.slice sa GS.length sc) = W8 from hW8] at i8 g8
      have HE : Hid (post (.returned (.agg #[.bool SH, .int .u32 (EN : Int), .slice sa GS.length sc])) W8) := by
        have := HY.out (.slice sa GS.length sc) W8 HP0.out ((o5.row g8 (by omega)).base (by omega)) (hbw.grown g8 hbw.size (fun k e => by injection e with e; omega))
        rw [HV.out] at this
        exact this
      obtain ⟨s0, s1, s2⟩ := i8.cells
      clear g8 i8 k1 k2 k3 k4 k5 z5 o5 e5 hbw hb5
      go_wp2
      refine bodyPost_ret (v := .agg #[.bool SH, .int .u32 (EN : Int), .slice sa GS.length sc]) ?_ rfl HE.out
      rw [results_cell1 rfl]; simp [go_sem, s0, s1, s2]
  · have hpe : parE l = hdE l := by unfold parE; rw [if_neg hd0]
    have := HN.out w3 (by rw [hpe]; exact hd0) H3.out.1
    rw [hpe] at this
    exact ⟨rfl, this⟩
theorem assert_err (k : Int) (w : World) : (Instr.typeAssert (.iface 27 (.int .i64 k)) 20 27 true).run Try.prog w = .ok (.tuple #[.int .i64 k, .bool true]) w := by
  kernel_rfl
theorem assert_nil (w : World) : (Instr.typeAssert .nilIface 20 27 true).run Try.prog w = .ok (.tuple #[.int .i64 0, .bool false]) w := by
  kernel_rfl
theorem catch34 (k : Int) (p : Addr) (w : World) (hp : (w.cell? p).isSome = true) (hy : w.frozen? p = false) :
    CallsD Try.prog 34 #[.pointer (some p)] (.panicking (thrown k)) w fun e u' w' =>
      e = .returned (.tuple #[]) ∧ u' = .panicking [{ v := .iface 27 (.int .i64 k), recovered := true }] ∧ w' = w.setCell p (.int .i64 k) := by
  obtain ⟨o', hp⟩ := Option.isSome_iff_exists.1 hp
  have ha := assert_err k
  refine callsD_of_wpS Try.func34 rfl fun c₀ cs hu => ?_
  apply wpS_seq
  apply wpS_region
  simp [wpOpsS, go_sem, recoverD, hu, ha, Try.ntmps34, Exit.thenS]
  apply wpS_seq
  apply wpS_region
  simp [wpOpsS, go_sem, Exit.thenS]
  refine wpS_cond (t := true) (by simp [Act.eval, Array.replicate]) ?_
  simp only [if_true]
  apply wpS_region
  simp [wpOpsS, go_sem, hp, hy, bodyPostS, results, Try.results34]
theorem idle34 (p : Addr) (w : World) :
    CallsD Try.prog 34 #[.pointer (some p)] .returning w fun e u' w' => e = .returned (.tuple #[]) ∧ u' = .returning ∧ w' = w := by
  have ha := assert_nil
  refine callsD_of_wpS Try.func34 rfl fun c₀ cs hu => ?_
  apply wpS_seq
  apply wpS_region
  simp [wpOpsS, go_sem, recoverD, hu, ha, Try.ntmps34, Exit.thenS]
  apply wpS_seq
  apply wpS_region
  simp [wpOpsS, go_sem, Exit.thenS]
  refine wpS_cond (t := false) (by simp [Act.eval, Array.replicate]) ?_
  simp only [Bool.false_eq_true, if_false]
  refine wpS_of_wp (wp_skip ?_)
  cases c₀
  simp_all [bodyPostS, results, Try.results34]
/-- What caught lays: its two results. -/
theorem box2r (w : World) : ∃ W, (w.alloc (.cells #[.bool false, .int .u32 0, .slice none 0 0] 26)).alloc (.cells #[.int .i64 0] 27) = W ∧ Below w.heap.size w W ∧ W.heap.size = w.heap.size + 2 ∧ Z3 w.heap.size W ∧ Boxed W (w.heap.size + 1) 27 (.int .i64 0) := by
  refine ⟨_, rfl, ((Below.refl _ _).alloc (Nat.le_refl _) _).alloc (by simp) _, by simp, ?_, ?_⟩
  · exact B3.keep (World.alloc_heap_new w _) ((Below.refl _ _).alloc (Nat.le_refl _) _)
  · have := Boxed.new (w.alloc (.cells #[.bool false, .int .u32 0, .slice none 0 0] 26)) 27 (.int .i64 0)
    rw [World.size_alloc] at this
    exact this
set_option maxHeartbeats 2000000 in
theorem caught18 (P0 : Nat) (l : L8) (hl : l.length ≤ 1000000) (w : World) (hc : w.cell? ⟨P0, 0, none⟩ = some (.string ⟨l.toArray⟩)) :
    Calls Try.prog 18 #[.func (.func 19) #[] #[.pointer (some ⟨P0, 0, none⟩)]] w fun e w' => (∃ v, e = .returned (.tuple #[(parF l).val v, .int .i64 (parE l : Int)]) ∧ OwnG w.heap.size w' v (parF l).segs) ∧ Below w.heap.size w w' := by
  have hmf : ∀ (fn : Fn) (first cap : Array Value) (w : World), (Instr.makeFunc fn first cap).run Try.prog w = .ok (.func fn first cap) w := fun _ _ _ _ => rfl
  obtain ⟨post, hpost⟩ : ∃ p : Ending → World → Prop, p = fun e w' => (∃ v, e = .returned (.tuple #[(parF l).val v, .int .i64 (parE l : Int)]) ∧ OwnG w.heap.size w' v (parF l).segs) ∧ Below w.heap.size w w' := ⟨_, rfl⟩
  rw [← hpost]
  have HP : Hid (∀ v w', OwnG w.heap.size w' v (parF l).segs → Below w.heap.size w w' → post (.returned (.tuple #[.agg #[.bool (parF l).shared, .int .u32 ((parF l).entry : Int), v], .int .i64 (parE l : Int)])) w') := fun v w' h1 h2 => by rw [hpost]; exact ⟨⟨v, rfl, h1⟩, h2⟩
  clear hpost
  obtain ⟨W, hW, hb, hz, z0, b1⟩ := box2r w
  have K19 := parse19 P0 l hl W (keep_cell hb hc)
  have H0 : Hid (Below w.heap.size w W ∧ Z3 w.heap.size W ∧ Boxed W (w.heap.size + 1) 27 (.int .i64 0) ∧ W.heap.size = w.heap.size + 2) := ⟨hb, z0, b1, hz⟩
  have eg := enters_of Try.func19 (by kernel_rfl) rfl
  clear hb hz z0 b1 hc hl
  go_enter_defers Try.func18, Try.ntmps18
  go_wp2_with fail
  refine K19.mono ?_
  rintro e w2 ⟨h2, hb2⟩
  clear K19
  obtain ⟨k1, k2, k3, k4⟩ := H0.out
  have z2 := k2.keep hb2
  have b2 := k3.kept (grown_of (row := none) hb2) (by simp)
  have hw2 : Below w.heap.size w w2 := k1.trans (hb2.mono k1.size)
  rcases h2 with ⟨hp0, v, rfl, hown⟩ | ⟨hp0, rfl⟩
  · have hF : parF l = efAt l := by unfold parF; rw [if_pos hp0]
    rw [hF, hp0] at HP
    obtain ⟨sa, sc, rfl⟩ := hown.shape
    unfold Ef.val
    generalize hGS : (efAt l).segs = GS at *
    generalize hSH : (efAt l).shared = SH at *
    generalize hEN : (efAt l).entry = EN at *
    obtain ⟨q0, q1, q2⟩ := z2.cells
    have f0 := z2.frozen 0
    have f1 := z2.frozen 1
    have f2 := z2.frozen 2
    obtain ⟨W8, hW8⟩ : ∃ z, ((w2.setCell ⟨w.heap.size, 0, none⟩ (.bool SH)).setCell ⟨w.heap.size, 1, none⟩ (.int .u32 (EN : Int))).setCell ⟨w.heap.size, 2, none⟩ (.slice sa GS.length sc) = z := ⟨_, rfl⟩
    have i8 := st3_in z2 (.bool SH) (.int .u32 (EN : Int)) (.slice sa GS.length sc)
    have g8 := st3_grown w2 w.heap.size (.bool SH) (.int .u32 (EN : Int)) (.slice sa GS.length sc)
    rw [show st3 w2 w.heap.size (.bool SH) (.int .u32 (EN : Int)) (.slice sa GS.length sc) = W8 from hW8] at i8 g8
    have b8 := b2.kept g8 (by intro e; injection e with e; omega)
    have p0 := b8.cell
    have y0 := b8.frozen
    have g9 := grown_set W8 (w.heap.size + 1) (.int .i64 0)
    obtain ⟨W9, hW9⟩ : ∃ z, W8.setCell ⟨w.heap.size + 1, 0, none⟩ (.int .i64 0) = z := ⟨_, rfl⟩
    have b9 := Boxed.set (.int .i64 0) b8
    have i9 := i8.row g9 (by intro e; injection e with e; omega)
    rw [hW9] at b9 i9 g9
    have HE : Hid (post (.returned (.tuple #[.agg #[.bool SH, .int .u32 (EN : Int), .slice sa GS.length sc], .int .i64 0])) W9) := by
      have h8 : Below w.heap.size w W8 := hw2.grown g8 hw2.size (fun k e => by injection e with e; omega)
      have h9 : Below w.heap.size w W9 := h8.grown g9 h8.size (fun k e => by injection e with e; omega)
      exact HP.out _ W9 (((hown.row g8 (by omega)).row g9 (by omega)).base (by omega)) h9
    obtain ⟨s0, s1, s2⟩ := i9.cells
    have s6 := b9.cell
    clear hb2 z2 b2 g8 i8 b8 g9 b9 i9 hw2 hown k1 k2 k3 k4 hGS hSH hEN hF hp0
    go_wp2
    refine leaves_cons (f := 34) (args := #[.pointer (some ⟨w.heap.size + 1, 0, none⟩)]) (by simp) (by simp [go_sem]) ?_
    refine (idle34 ⟨w.heap.size + 1, 0, none⟩ _).mono ?_
    rintro e u' w'' ⟨rfl, rfl, rfl⟩
    have HE := HE.out
    simp [Leaves, settle, results, Try.results18, go_sem, s0, s1, s2, s6, HE]
  · have hF : parF l = zeroE := by unfold parF; rw [if_neg hp0]
    rw [hF] at HP
    have HP : Hid (∀ w', Below w.heap.size w w' → post (.returned (.tuple #[.agg #[.bool false, .int .u32 0, .slice none 0 0], .int .i64 (parE l : Int)])) w') := fun w' h => HP.out (.slice none 0 0) w' (own_nil _ _) h
    generalize hEE : (parE l : Int) = EE at *
    have g9 := grown_set w2 (w.heap.size + 1) (.int .i64 EE)
    have b9 := Boxed.set (.int .i64 EE) b2
    have i9 := z2.row g9 (by intro e; injection e with e; omega)
    have HE : Hid (post (.returned (.tuple #[.agg #[.bool false, .int .u32 0, .slice none 0 0], .int .i64 EE])) (w2.setCell ⟨w.heap.size + 1, 0, none⟩ (.int .i64 EE))) := HP.out _ (hw2.grown g9 hw2.size (fun k e => by injection e with e; omega))
    obtain ⟨s0, s1, s2⟩ := i9.cells
    have s6 := b9.cell
    have HBX : Hid (Boxed w2 (w.heap.size + 1) 27 (.int .i64 0)) := b2
    clear hb2 z2 b2 g9 b9 i9 hw2 k1 k2 k3 k4 hF hp0 hEE
    go_wp2
    refine leaves_cons (f := 34) (args := #[.pointer (some ⟨w.heap.size + 1, 0, none⟩)]) (by simp) (by simp [go_sem]) ?_
    refine (catch34 EE ⟨w.heap.size + 1, 0, none⟩ w2 (by rw [HBX.out.cell]; rfl) HBX.out.frozen).mono ?_
    rintro e u' w'' ⟨rfl, rfl, rfl⟩
    have HE := HE.out
    simp [Leaves, settle, results, Try.results18, go_sem, s0, s1, s2, s6, HE]
set_option maxHeartbeats 2000000 in
theorem parse8 (l : L8) (hl : l.length ≤ 1000000) (w : World) :
    Calls Try.prog 8 #[.string ⟨l.toArray⟩] w fun e w' => (∃ v, e = .returned (.tuple #[(parF l).val v, .int .i64 (parE l : Int)]) ∧ OwnG w.heap.size w' v (parF l).segs) ∧ Below w.heap.size w w' := by
  have hmf : ∀ (fn : Fn) (first cap : Array Value) (w : World), (Instr.makeFunc fn first cap).run Try.prog w = .ok (.func fn first cap) w := fun _ _ _ _ => rfl
  obtain ⟨S, hS⟩ : ∃ S : ByteArray, S = ⟨l.toArray⟩ := ⟨_, rfl⟩
  obtain ⟨W, hW⟩ : ∃ W, (w.alloc (.cells #[.string S] 9)).alloc (.cells #[.bool false, .int .u32 0, .slice none 0 0] 26) = W := ⟨_, rfl⟩
  have hb : Below w.heap.size w W := by rw [← hW]; exact ((Below.refl _ _).alloc (Nat.le_refl _) _).alloc (by simp) _
  have hz : W.heap.size = w.heap.size + 2 := by rw [← hW]; simp
  have c0 : W.cell? ⟨w.heap.size, 0, none⟩ = some (.string S) := by rw [← hW]; exact cell_old (cell_newA w _ _ _ _ _ rfl rfl) _
  have z0 : Z3 (w.heap.size + 1) W := by
    rw [← hW]
    have := World.alloc_heap_new (w.alloc (.cells #[.string S] 9)) (.cells #[.bool false, .int .u32 0, .slice none 0 0] 26)
    rw [World.size_alloc] at this
    exact this
  have K18 := caught18 w.heap.size l hl W (by rw [← hS]; exact c0)
  obtain ⟨F, hF⟩ : ∃ F, F = parF l := ⟨_, rfl⟩
  obtain ⟨EE, hEE⟩ : ∃ F, F = (parE l : Int) := ⟨_, rfl⟩
  rw [← hS, ← hF, ← hEE]
  rw [← hF, ← hEE] at K18
  unfold Ef.val at *
  have H0 : Hid (Below w.heap.size w W ∧ Z3 (w.heap.size + 1) W ∧ W.heap.size = w.heap.size + 2) := ⟨hb, z0, hz⟩
  clear hb z0 hz hS hF hEE c0
  go_enter Try.func8, Try.ntmps8
  go_wp2_with fail
  refine K18.mono ?_
  rintro e w2 ⟨⟨v, rfl, hown⟩, hb2⟩
  clear K18
  obtain ⟨k1, k2, k3⟩ := H0.out
  have z2 := k2.keep hb2
  have hw2 : Below w.heap.size w w2 := k1.trans (hb2.mono k1.size)
  obtain ⟨sa, sc, rfl⟩ := hown.shape
  obtain ⟨q0, q1, q2⟩ := z2.cells
  have f0 := z2.frozen 0
  have f1 := z2.frozen 1
  have f2 := z2.frozen 2
  obtain ⟨W8, hW8⟩ : ∃ z, ((w2.setCell ⟨w.heap.size + 1, 0, none⟩ (.bool F.shared)).setCell ⟨w.heap.size + 1, 1, none⟩ (.int .u32 (F.entry : Int))).setCell ⟨w.heap.size + 1, 2, none⟩ (.slice sa F.segs.length sc) = z := ⟨_, rfl⟩
  have i8 := st3_in z2 (.bool F.shared) (.int .u32 (F.entry : Int)) (.slice sa F.segs.length sc)
  have g8 := st3_grown w2 (w.heap.size + 1) (.bool F.shared) (.int .u32 (F.entry : Int)) (.slice sa F.segs.length sc)
  rw [show st3 w2 (w.heap.size + 1) (.bool F.shared) (.int .u32 (F.entry : Int)) (.slice sa F.segs.length sc) = W8 from hW8] at i8 g8
  have HE : Hid (OwnG w.heap.size W8 (.slice sa F.segs.length sc) F.segs ∧ Below w.heap.size w W8) := ⟨(hown.row g8 (by omega)).base (by omega), hw2.grown g8 hw2.size (fun k e => by injection e with e; omega)⟩
  obtain ⟨s0, s1, s2⟩ := i8.cells
  clear k1 k2 k3 z2 hw2 i8 g8 hown hb2 hW
  go_wp2
  refine bodyPost_ret (v := .tuple #[.agg #[.bool F.shared, .int .u32 (F.entry : Int), .slice sa F.segs.length sc], .int .i64 EE]) ?_ rfl ⟨⟨_, rfl, HE.out.1⟩, HE.out.2⟩
  rw [results_cell_tmp rfl]; simp [go_sem, s0, s1, s2]
end Go.Proofs.Ythhallhmolgpbaa
