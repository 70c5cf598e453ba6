/- What is proved here: where a library's parts are. -/
import Derived.Test.YtgdflobcbhnimaaGreatPkp
namespace Go.Proofs.YtgdflobcbhnimaaGreat
open Go.RowKit 
set_option linter.unusedVariables false
set_option linter.unusedSimpArgs false
set_option maxRecDepth 100000
/-- A call by its contract, in a region whose operations come in the text's order. -/
theorem wpList_callC {P : Program} {ops : Array Oper} {rest : List Oper} {o : Oper} {a : Act} {w : World} {Q : Exit → Act → World → Prop} (hgd : o.guard = none) (f : FuncId) (args : Array Value) (R : Value → World → Prop)
    (hrun : (execOp a.eval o).run P w = .ok (.enter f args) w) (hc : Calls P f args w fun e w' => ∃ v, e = .returned v ∧ R v w')
    (h : ∀ v w', R v w' → wpList P ops Q rest (a.put o.dst v) w') : wpList P ops Q (o :: rest) a w := by
  refine wpList_plain hgd fun K hK => ?_
  unfold Oper.wp
  rw [hrun, Oper.upon_enter]
  refine hc.mono fun e w'' hh => ?_
  obtain ⟨v, rfl, hr⟩ := hh
  exact hK _ _ (h v w'' hr)
structure Pl where
  code : Nat
  got : Nat
  data : Nat
  fin : Nat
def Lb.place (l : Lb) : Pl := ⟨l.lay.ad 7, l.lay.ad 8, l.lay.ad 9, l.lay.ad 8 + l.lay.second.room⟩
def Pl.val (p : Pl) : Value := .agg #[.int .u32 (p.code : Int), .int .u32 (p.got : Int), .int .u32 (p.data : Int), .int .u32 (p.fin : Int)]
theorem box14 (l : Lb) (q : Lv) (w : World) : ∃ W, w.alloc (.cells (l.cells q).toArray 28) = W ∧ Below w.heap.size w W ∧ BL l q w.heap.size W ∧ W.heap.size = w.heap.size + 1 := by
  refine ⟨_, rfl, (Below.refl _ _).alloc (Nat.le_refl _) _, new_heap w _ _, by simp⟩
theorem alloc54 (pos : String) (a : Act) (w : World) : (execOp a.eval { dst := some 3, op := Op.alloc 54, type := 0, pos := pos, after := #[], guard := none }).run Tryz.prog w = .ok (.value (.pointer (some ⟨w.heap.size, 0, none⟩))) (w.alloc (.cells #[.bool false, .int .u32 0, .int .u32 0, .string ⟨#[]⟩, .string ⟨#[]⟩, .int .u32 0, .slice none 0 0, .string ⟨#[]⟩, .string ⟨#[]⟩, .slice none 0 0, .slice none 0 0, .slice none 0 0, .int .i64 0, .int .u32 0, .int .u32 0, .int .u32 0, .int .u32 0, .int .u32 0, .int .u32 0, .int .u32 0, .int .u32 0, .int .u32 0, .int .u32 0, .int .u32 0, .int .u32 0, .int .u32 0, .int .u32 0, .int .u32 0, .int .u32 0, .int .u32 0, .int .u32 0, .int .u32 0, .int .u32 0, .int .u32 0] 54)) := by rfl
set_option maxHeartbeats 8000000 in
theorem place11 (l : Lb) (q : Lv) (w : World) (hf : FitP l) (hv : LvIs l q w) (hbd : l.Bd) (K9 : ∀ w', Below w.heap.size w w' → Calls Tryz.prog 9 #[l.val q] w' fun e w'' => e = .returned (.bool true) ∧ Below w'.heap.size w' w'') :
    Calls Tryz.prog 11 #[l.val q] w fun e w' => e = .returned l.place.val ∧ Below w.heap.size w w' := by
  obtain ⟨W1, hW1, b1, n1, s1⟩ := box14 l q w
  obtain ⟨W2, hW2⟩ : ∃ z, W1.alloc (.cells #[.int .u32 0, .int .u32 0, .int .u32 0, .int .u32 0] 32) = z := ⟨_, rfl⟩
  have b2 : Below W1.heap.size W1 W2 := by rw [← hW2]; exact (Below.refl _ _).alloc (Nat.le_refl _) _
  have n2 : W2.heap[w.heap.size + 1]? = some (.cells #[.int .u32 0, .int .u32 0, .int .u32 0, .int .u32 0] 32 (0, 0)) := by rw [← hW2, ← s1]; exact new_heap W1 _ _
  have HS2 : Hid (SB w (w.heap.size + 1) 32 4 W2 ∧ BL l q w.heap.size W2 ∧ FitP l ∧ LvIs l q w ∧ l.Bd) := ⟨⟨below_tr b1 b2, _, n2, rfl⟩, n1.keep b2, hf, hv, hbd⟩
  obtain ⟨LC, hLC⟩ : ∃ z : Array Value, z = (l.cells q).toArray := ⟨_, rfl⟩
  obtain ⟨YC, hYC⟩ : ∃ z : Array Value, z = (l.lay.cells q).toArray := ⟨_, rfl⟩
  have hval : l.val q = .agg LC := by rw [hLC]; rfl
  rw [hval] at K9 ⊢
  rw [← hLC] at hW1
  have HYC : Hid (YC = (l.lay.cells q).toArray) := hYC
  have hyc : (Tryz.prog.info? 54).map (·.size) = some YC.size ∧ YC.size = 34 ∧ YC.all (·.oneCell') = true := ⟨by rw [hYC]; rfl, by rw [hYC]; rfl, by rw [hYC]; exact cells_one hv l.lay rfl⟩
  have hlc : (Tryz.prog.info? 28).map (·.size) = some LC.size := by rw [hLC]; rfl
  have K9' := K9 W2 HS2.out.1.1
  have HBL : Hid (∀ w', BL l q w.heap.size w' → w'.heap[w.heap.size]? = some (.cells LC 28 (0, 0))) := fun w' h => by rw [hLC]; exact h
  have l1 : W2.heap[w.heap.size]? = some (.cells LC 28 (0, 0)) := HBL.out W2 HS2.out.2.1
  have HLS : Hid (LC = (l.cells q).toArray ∧ l.val q = .agg LC) := ⟨hLC, hval⟩
  clear hf hv hbd b1 n1 b2 n2 hLC hYC hval K9
  go_enter Tryz.func11, Tryz.ntmps11
  go_upto_region 1 with fail
  refine wp_region_list ?_
  refine wpList_load_row rfl 28 (.tmp 1) rfl w.heap.size (by simp [Act.eval]) 28 LC (0, 0) _ l1 (by rfl) (by rfl) hlc ?_
  simp only [Act.put, List.setIfInBounds_toArray, List.set_cons_zero, List.set_cons_succ]
  refine wpList_callC rfl 9 #[.agg LC] (fun v w' => v = .bool true ∧ Below W2.heap.size W2 w') (by simp [Act.eval, go_sem]) (K9'.mono (fun e w' h => ⟨_, h.1, rfl, h.2⟩)) ?_
  rintro v w2 ⟨rfl, hb2⟩
  simp only [Act.put, List.setIfInBounds_toArray, List.set_cons_zero, List.set_cons_succ]
  refine Go.Great.wpList_runTo rfl (some 7) rfl (.bool false) w2 (by simp [Act.eval, go_sem]) ?_
  simp only [Act.put, List.setIfInBounds_toArray, List.set_cons_zero, List.set_cons_succ]
  refine wpList_nil ?_
  have H2 : Hid (SB w (w.heap.size + 1) 32 4 w2 ∧ BL l q w.heap.size w2) := ⟨HS2.out.1.step hb2, HS2.out.2.1.keep hb2⟩
  have HX : Hid (w2.heap[w.heap.size]? = some (.cells LC 28 (0, 0)) ∧ (Tryz.prog.info? 28).map (·.size) = some LC.size ∧ (Tryz.prog.info? 54).map (·.size) = some YC.size ∧ YC.size = 34 ∧ YC.all (·.oneCell') = true) := ⟨HBL.out w2 H2.out.2, hlc, hyc⟩
  have K23 := lay23 l q w2 HS2.out.2.2.1 (HS2.out.2.2.2.1.keep H2.out.1.1) HS2.out.2.2.2.2
  rw [HLS.out.2, ← HYC.out] at K23
  clear l1 hlc hyc K9' hW1 hW2 hb2 s1
  go_upto_region 3 with fail
  refine wp_region_list ?_
  refine wpList_load_row rfl 28 (.tmp 1) rfl w.heap.size (by simp [Act.eval]) 28 LC (0, 0) _ HX.out.1 (by rfl) (by rfl) HX.out.2.1 ?_
  simp only [Act.put, List.setIfInBounds_toArray, List.set_cons_zero, List.set_cons_succ]
  refine wpList_callC rfl 23 #[.agg LC] (fun v w' => v = .agg YC ∧ Below w2.heap.size w2 w') (by simp [Act.eval, go_sem]) (K23.mono (fun e w' h => ⟨_, h.1, rfl, h.2⟩)) ?_
  rintro v w3 ⟨rfl, hb3⟩
  simp only [Act.put, List.setIfInBounds_toArray, List.set_cons_zero, List.set_cons_succ]
  obtain ⟨W4, hW4⟩ : ∃ z, w3.alloc (.cells #[.bool false, .int .u32 0, .int .u32 0, .string ⟨#[]⟩, .string ⟨#[]⟩, .int .u32 0, .slice none 0 0, .string ⟨#[]⟩, .string ⟨#[]⟩, .slice none 0 0, .slice none 0 0, .slice none 0 0, .int .i64 0, .int .u32 0, .int .u32 0, .int .u32 0, .int .u32 0, .int .u32 0, .int .u32 0, .int .u32 0, .int .u32 0, .int .u32 0, .int .u32 0, .int .u32 0, .int .u32 0, .int .u32 0, .int .u32 0, .int .u32 0, .int .u32 0, .int .u32 0, .int .u32 0, .int .u32 0, .int .u32 0, .int .u32 0] 54) = z := ⟨_, rfl⟩
  have n4 : W4.heap[w3.heap.size]? = some (.cells #[.bool false, .int .u32 0, .int .u32 0, .string ⟨#[]⟩, .string ⟨#[]⟩, .int .u32 0, .slice none 0 0, .string ⟨#[]⟩, .string ⟨#[]⟩, .slice none 0 0, .slice none 0 0, .slice none 0 0, .int .i64 0, .int .u32 0, .int .u32 0, .int .u32 0, .int .u32 0, .int .u32 0, .int .u32 0, .int .u32 0, .int .u32 0, .int .u32 0, .int .u32 0, .int .u32 0, .int .u32 0, .int .u32 0, .int .u32 0, .int .u32 0, .int .u32 0, .int .u32 0, .int .u32 0, .int .u32 0, .int .u32 0, .int .u32 0] 54 (0, 0)) := by rw [← hW4]; exact new_heap w3 _ _
  have b4 : Below w3.heap.size w3 W4 := by rw [← hW4]; exact (Below.refl _ _).alloc (Nat.le_refl _) _
  refine Go.Great.wpList_runTo rfl (some 3) rfl (.pointer (some ⟨w3.heap.size, 0, none⟩)) W4 (by rw [← hW4]; exact alloc54 _ _ w3) ?_
  simp only [Act.put, List.setIfInBounds_toArray, List.set_cons_zero, List.set_cons_succ]
  refine wpList_store_row rfl 54 (.tmp 3) (.tmp 10) rfl w3.heap.size YC (by simp [Act.eval]) (by simp [Act.eval]) 54 _ n4 HX.out.2.2.1 (by rw [HX.out.2.2.2.1]; rfl) HX.out.2.2.2.2 ?_
  simp only [Act.put]
  obtain ⟨W5, hW5⟩ : ∃ z, W4.setRow w3.heap.size YC = z := ⟨_, rfl⟩
  have hlt3 : w.heap.size + 1 < w3.heap.size := by obtain ⟨_, _, ho, _⟩ := H2.out.1.step hb3; exact (Array.getElem?_eq_some_iff.1 ho).1
  have hs4 : SB w w3.heap.size 54 34 W4 := ⟨(((H2.out.1.step hb3).step b4)).1, _, n4, rfl⟩
  have p5 := hs4.set (by omega) YC HX.out.2.2.2.1
  have hs5 := ((H2.out.1.step hb3).step b4).row (grown_setRow W4 w3.heap.size YC) (fun j e => by injection e with e; omega)
  rw [hW5] at p5 hs5 ⊢
  refine wpList_nil ?_
  have H5 : Hid (SB w (w.heap.size + 1) 32 4 W5 ∧ BY l.lay q w3.heap.size W5 ∧ l.lay.Ok ∧ w.heap.size + 1 < w3.heap.size) := ⟨hs5, by rw [HYC.out] at p5; exact p5.2, lay_ok HS2.out.2.2.1, hlt3⟩
  clear hb3 n4 b4 hlt3 hs4 p5 hs5 hW5 hW4 K23 HX
  generalize w3.heap.size = g at *
  have HK : Hid (∀ (p : Nat) w', p < 10 → Below W5.heap.size W5 w' → Calls Tryz.prog 25 #[.pointer (some ⟨g, 0, none⟩), .int .i64 (p : Int)] w' fun e w'' => e = .returned (.int .u32 (l.lay.ad p : Int)) ∧ Below w'.heap.size w' w'') := fun p w' hp hw => address25 l.lay q g p w' (H5.out.2.1.keep hw) H5.out.2.2.1 hp
  have K24 := second24 l.lay q g W5 H5.out.2.1 H5.out.2.2.1
  obtain ⟨SG, hSG⟩ : ∃ z, z = l.lay.second := ⟨_, rfl⟩
  obtain ⟨A7, hA7⟩ : ∃ z, z = l.lay.ad 7 := ⟨_, rfl⟩
  obtain ⟨A8, hA8⟩ : ∃ z, z = l.lay.ad 8 := ⟨_, rfl⟩
  obtain ⟨A9, hA9⟩ : ∃ z, z = l.lay.ad 9 := ⟨_, rfl⟩
  have K7 : Hid (∀ w', Below W5.heap.size W5 w' → Calls Tryz.prog 25 #[.pointer (some ⟨g, 0, none⟩), .int .i64 7] w' fun e w'' => e = .returned (.int .u32 (A7 : Int)) ∧ Below w'.heap.size w' w'') := fun w' hw => by rw [hA7]; exact HK.out 7 w' (by decide) hw
  have K8 : Hid (∀ w', Below W5.heap.size W5 w' → Calls Tryz.prog 25 #[.pointer (some ⟨g, 0, none⟩), .int .i64 8] w' fun e w'' => e = .returned (.int .u32 (A8 : Int)) ∧ Below w'.heap.size w' w'') := fun w' hw => by rw [hA8]; exact HK.out 8 w' (by decide) hw
  have K9 : Hid (∀ w', Below W5.heap.size W5 w' → Calls Tryz.prog 25 #[.pointer (some ⟨g, 0, none⟩), .int .i64 9] w' fun e w'' => e = .returned (.int .u32 (A9 : Int)) ∧ Below w'.heap.size w' w'') := fun w' hw => by rw [hA9]; exact HK.out 9 w' (by decide) hw
  obtain ⟨RM, hRM⟩ : ∃ z, z = SG.room := ⟨_, rfl⟩
  obtain ⟨FN, hFN⟩ : ∃ z, z = A8 + RM := ⟨_, rfl⟩
  have hsat : SG.at_ = A8 := by rw [hSG, hA8]; rfl
  have hpl : l.place = ⟨A7, A8, A9, FN⟩ := by rw [hFN, hRM, hSG, hA7, hA8, hA9]; rfl
  have hRMb : RM ≤ 200000 := by
    have h1 := H5.out.2.2.1.a 9; have h2 := H5.out.2.2.1.s 9; have h3 := H5.out.2.2.1.fit.bs
    have : RM = l.lay.at_ 9 + l.lay.size 9 - l.lay.at_ 8 + l.lay.lib.bss := by rw [hRM, hSG]; rfl
    omega
  have hA8b := H5.out.2.2.1.ad_le 8
  rw [← hA8] at hA8b
  have e1 : (A8 : Int) + (RM : Int) = (FN : Int) := by omega
  have e2 : (FN : Int) % 4294967296 = (FN : Int) := by omega
  have e2' : IntKind.u32.wrap (FN : Int) = (FN : Int) := by rw [IntKind.wrap_u32]; exact e2
  have HPL : Hid (l.place.val = .agg #[.int .u32 (A7 : Int), .int .u32 (A8 : Int), .int .u32 (A9 : Int), .int .u32 (FN : Int)]) := by show _ = _; rw [hpl]; rfl
  rw [← hSG] at K24
  obtain ⟨g0, g1, g2, g3, g4, g5, g6⟩ := SG
  simp only at hsat hRM
  subst hsat hRM
  have K24 : Calls Tryz.prog 24 #[.pointer (some ⟨g, 0, none⟩)] W5 fun e w' => e = .returned (.agg #[.int .i64 g0, .int .u32 (g1 : Int), .int .u32 (g2 : Int), .int .u32 (g3 : Int), .int .u32 (RM : Int), .int .i64 g5, .int .u32 (g6 : Int)]) ∧ Below W5.heap.size W5 w' := K24
  clear hSG hA7 hA8 hA9 hFN hpl hRMb hA8b HK
  go_wp2_with fail
  refine K24.mono ?_
  rintro e w6 ⟨rfl, hb6⟩
  obtain ⟨W7, hW7⟩ : ∃ z, w6.alloc (.cells #[.int .i64 g0, .int .u32 (g1 : Int), .int .u32 (g2 : Int), .int .u32 (g3 : Int), .int .u32 (RM : Int), .int .i64 g5, .int .u32 (g6 : Int)] 41) = z := ⟨_, rfl⟩
  have hb7 : Below w6.heap.size w6 W7 := by rw [← hW7]; exact (Below.refl _ _).alloc (Nat.le_refl _) _
  have hn7 : W7.heap[w6.heap.size]? = some (.cells #[.int .i64 g0, .int .u32 (g1 : Int), .int .u32 (g2 : Int), .int .u32 (g3 : Int), .int .u32 (RM : Int), .int .i64 g5, .int .u32 (g6 : Int)] 41 (0, 0)) := by rw [← hW7]; exact new_heap w6 _ _
  obtain ⟨p0, p1, p2, p3, p4, p5, p6⟩ := seven hn7
  have H7 : Hid (SB w (w.heap.size + 1) 32 4 W7 ∧ W7.cell? ⟨w6.heap.size, 2, none⟩ = some (.int .u32 (g2 : Int)) ∧ W7.cell? ⟨w6.heap.size, 4, none⟩ = some (.int .u32 (RM : Int)) ∧ Below W5.heap.size W5 W7) := ⟨(H5.out.1.step hb6).step hb7, p2, p4, below_tr hb6 hb7⟩
  have HNE : Hid (w6.heap.size ≠ w.heap.size + 1) := by
    have h1 := H5.out.2.2.2
    have h2 := H5.out.2.1.lt
    have h3 := hb6.size
    show _ ≠ _
    omega
  clear K24 hb6 hb7 hn7 p0 p1 p2 p3 p4 p5 p6
  go_upto_region 5 with fail
  clear hW7
  generalize w6.heap.size = gs at *
  obtain ⟨RR, hRR⟩ : ∃ RR : World → Prop, RR = fun w' => w'.cell? ⟨gs, 2, none⟩ = some (.int .u32 (g2 : Int)) ∧ w'.cell? ⟨gs, 4, none⟩ = some (.int .u32 (RM : Int)) := ⟨_, rfl⟩
  have HR0 : Hid (∀ w', RR w' → w'.cell? ⟨gs, 2, none⟩ = some (.int .u32 (g2 : Int)) ∧ w'.cell? ⟨gs, 4, none⟩ = some (.int .u32 (RM : Int))) := fun w' h => by rw [hRR] at h; exact h
  have HR1 : Hid (∀ w' w'', RR w' → Below w'.heap.size w' w'' → RR w'') := fun w' w'' h hb => by rw [hRR] at h ⊢; exact ⟨keep_cell hb h.1, keep_cell hb h.2⟩
  have HR2 : Hid (∀ w' X, RR w' → RR (w'.setRow (w.heap.size + 1) X)) := fun w' X h => by rw [hRR] at h ⊢; exact ⟨keep_other (grown_setRow w' _ X) HNE.out h.1, keep_other (grown_setRow w' _ X) HNE.out h.2⟩
  have hP : Below W5.heap.size W5 W7.drew := H7.out.2.2.2.trans ⟨rfl, rfl, rfl, Nat.le_refl _, fun _ _ => rfl⟩
  have HS0 : SB w (w.heap.size + 1) 32 4 W7.drew ∧ RR W7.drew := ⟨H7.out.1.step ((Below.refl _ _).trans ⟨rfl, rfl, rfl, Nat.le_refl _, fun _ _ => rfl⟩), by rw [hRR]; exact ⟨H7.out.2.1, H7.out.2.2.1⟩⟩
  clear hRR H7 H2
  refine wp_region_held_drew (S := fun w' => SB w (w.heap.size + 1) 32 4 w' ∧ RR w') (by kernel_rfl) (by exact HS0) (fun hS => ?_)
  refine wpAnyH_take (i := 3) (v := .pointer (some ⟨gs, 2, none⟩)) rfl (by kernel_rfl) (by kernel_rfl) (by kernel_rfl) (fun _ _ _ h => h) (Or.inl ⟨by kernel_rfl, fun wq hSw => ?_⟩) hS ?_
  · go_simp
  simp only [Act.put, List.getElem_toArray, List.getElem_cons_zero, List.getElem_cons_succ, List.setIfInBounds_toArray, List.set_cons_zero, List.set_cons_succ]
  refine wpAnyH_take (i := 4) (v := .int .u32 (g2 : Int)) rfl (by kernel_rfl) (by kernel_rfl) (by kernel_rfl) (fun _ _ _ h => h) (Or.inl ⟨by kernel_rfl, fun wq hSw => ?_⟩) hS ?_
  · have p_ := (HR0.out _ hSw.2).1; have p2_ := (HR0.out _ hSw.2).2; go_simp
  simp only [Act.put, List.getElem_toArray, List.getElem_cons_zero, List.getElem_cons_succ, List.setIfInBounds_toArray, List.set_cons_zero, List.set_cons_succ]
  refine wpAnyH_take (i := 5) (v := .pointer (some ⟨gs, 4, none⟩)) rfl (by kernel_rfl) (by kernel_rfl) (by kernel_rfl) (fun _ _ _ h => h) (Or.inl ⟨by kernel_rfl, fun wq hSw => ?_⟩) hS ?_
  · go_simp
  simp only [Act.put, List.getElem_toArray, List.getElem_cons_zero, List.getElem_cons_succ, List.setIfInBounds_toArray, List.set_cons_zero, List.set_cons_succ]
  refine wpAnyH_take (i := 6) (v := .int .u32 (RM : Int)) rfl (by kernel_rfl) (by kernel_rfl) (by kernel_rfl) (fun _ _ _ h => h) (Or.inl ⟨by kernel_rfl, fun wq hSw => ?_⟩) hS ?_
  · have p_ := (HR0.out _ hSw.2).1; have p2_ := (HR0.out _ hSw.2).2; go_simp
  simp only [Act.put, List.getElem_toArray, List.getElem_cons_zero, List.getElem_cons_succ, List.setIfInBounds_toArray, List.set_cons_zero, List.set_cons_succ]
  refine wpAnyH_take (i := 7) (v := .int .u32 (FN : Int)) rfl (by kernel_rfl) (by kernel_rfl) (by kernel_rfl) (fun _ _ _ h => h) (Or.inl ⟨by kernel_rfl, fun wq hSw => ?_⟩) hS ?_
  · go_simp
  simp only [Act.put, List.getElem_toArray, List.getElem_cons_zero, List.getElem_cons_succ, List.setIfInBounds_toArray, List.set_cons_zero, List.set_cons_succ]
  refine wpAnyH_ready (rs := [0]) (by kernel_rfl) (by simp) (AllReadyH.cons rfl (fun K hK => ?_) AllReadyH.nil)
  refine if_yes (by kernel_rfl) ?_
  simp [go_sem]
  refine (K7.out _ hP).mono ?_
  rintro e w6 ⟨rfl, hb6⟩
  have hS := And.intro (hS.1.step hb6) (HR1.out _ _ hS.2 hb6)
  have hP := below_tr hP hb6
  refine hK.out _ _ hS (fun _ => ?_)
  clear hK K hb6
  try simp only [Act.put, List.getElem_toArray, List.getElem_cons_zero, List.getElem_cons_succ, List.setIfInBounds_toArray, List.set_cons_zero, List.set_cons_succ]
  refine wpAnyH_ready (rs := [1]) (by kernel_rfl) (by simp) (AllReadyH.cons rfl (fun K hK => ?_) AllReadyH.nil)
  refine if_yes (by kernel_rfl) ?_
  simp [go_sem]
  refine (K8.out _ hP).mono ?_
  rintro e w6 ⟨rfl, hb6⟩
  have hS := And.intro (hS.1.step hb6) (HR1.out _ _ hS.2 hb6)
  have hP := below_tr hP hb6
  refine hK.out _ _ hS (fun _ => ?_)
  clear hK K hb6
  try simp only [Act.put, List.getElem_toArray, List.getElem_cons_zero, List.getElem_cons_succ, List.setIfInBounds_toArray, List.set_cons_zero, List.set_cons_succ]
  refine wpAnyH_ready (rs := [2]) (by kernel_rfl) (by simp) (AllReadyH.cons rfl (fun K hK => ?_) AllReadyH.nil)
  refine if_yes (by kernel_rfl) ?_
  simp [go_sem]
  refine (K9.out _ hP).mono ?_
  rintro e w6 ⟨rfl, hb6⟩
  have hS := And.intro (hS.1.step hb6) (HR1.out _ _ hS.2 hb6)
  have hP := below_tr hP hb6
  refine hK.out _ _ hS (fun _ => ?_)
  clear hK K hb6
  try simp only [Act.put, List.getElem_toArray, List.getElem_cons_zero, List.getElem_cons_succ, List.setIfInBounds_toArray, List.set_cons_zero, List.set_cons_succ]
  refine wpAnyH_take (i := 8) (v := .agg #[.int .u32 (A7 : Int), .int .u32 (g2 : Int), .int .u32 (A9 : Int), .int .u32 (FN : Int)]) rfl (by kernel_rfl) (by kernel_rfl) (by kernel_rfl) (fun _ _ _ h => h) (Or.inl ⟨by kernel_rfl, fun wq hSw => ?_⟩) hS ?_
  · go_simp
  simp only [Act.put, List.getElem_toArray, List.getElem_cons_zero, List.getElem_cons_succ, List.setIfInBounds_toArray, List.set_cons_zero, List.set_cons_succ]
  refine wpAnyH_putR (R := RR) (i := 9) (by kernel_rfl) rfl (by kernel_rfl) (by kernel_rfl) 32 (.tmp 2) (.tmp 20) (by kernel_rfl) (w.heap.size + 1) #[.int .u32 (A7 : Int), .int .u32 (g2 : Int), .int .u32 (A9 : Int), .int .u32 (FN : Int)] (by kernel_rfl) (by kernel_rfl) hS (by omega) (by kernel_rfl) (by simp [Value.oneCell']) (HR2.out _ _ hS.2) (fun W9 hS i9 => ?_)
  refine wpAnyH_done (by kernel_rfl) ?_ _
  have H9 : Hid (Below w.heap.size w W9) := hS.1.1
  clear hS K7 K8 K9
  go_wp2
  refine bodyPost_ret (v := .agg #[.int .u32 (A7 : Int), .int .u32 (g2 : Int), .int .u32 (A9 : Int), .int .u32 (FN : Int)]) ?_ rfl ?_
  · exact results_cell_row rfl _ _ (w.heap.size + 1) 32 _ (0, 0) _ rfl i9 (by rfl) (by rfl) (by rfl)
  · exact ⟨by rw [HPL.out], H9.out⟩
end Go.Proofs.YtgdflobcbhnimaaGreat
