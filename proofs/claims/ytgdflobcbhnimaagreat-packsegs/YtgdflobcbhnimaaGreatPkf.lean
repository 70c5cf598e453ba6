/- What is proved here: the segment of what may be written. -/
import Derived.Test.YtgdflobcbhnimaaGreatPkd
import Derived.BigRegion
import Derived.Laws.Tables
import Derived.Deep.CutRange
import Derived.Test.YtgdflobcbhnimaaGreatEWr
namespace Go.Proofs.YtgdflobcbhnimaaGreat
open Go.RowKit 
set_option linter.unusedVariables false
set_option linter.unusedSimpArgs false
set_option maxRecDepth 100000
open E (Sg B7)
set_option maxHeartbeats 2000000 in
theorem second24 (y : Ly) (q : Lv) (b : Nat) (w : World) (h : BY y q b w) (ok : y.Ok) :
    Calls Tryz.prog 24 #[.pointer (some ⟨b, 0, none⟩)] w fun e w' => e = .returned (y.second.val) ∧ Below w.heap.size w w' := by
  obtain ⟨W1, hW1⟩ : ∃ z, w.alloc (.cells #[.int .i64 0, .int .u32 0, .int .u32 0, .int .u32 0, .int .u32 0, .int .i64 0, .int .u32 0] 41) = z := ⟨_, rfl⟩
  have hbw : Below w.heap.size w W1 := by rw [← hW1]; exact (Below.refl _ _).alloc (Nat.le_refl _) _
  have HZ : Hid (SB w w.heap.size 41 7 W1) := ⟨hbw, _, by rw [← hW1]; exact new_heap w _ _, rfl⟩
  have HY : Hid (BY y q b w ∧ BY y q b W1) := ⟨h, h.keep hbw⟩
  have K55 : Calls Tryz.prog 55 #[.pointer (some ⟨b, 0, none⟩), .int .i64 1, .int .i64 8, .int .i64 9, .int .i64 3, .int .u32 4096] W1 fun e w' => e = .returned ((y.seg 1 8 9 3 4096).val) ∧ Below W1.heap.size W1 w' := segment55 y q b 1 8 9 3 4096 W1 HY.out.2 ok (by decide) (by decide) ok.m89
  have d5 : w.cell? ⟨b, 5, none⟩ = some (.int .u32 (y.lib.bss : Int)) := h.lib 5 rfl
  obtain ⟨BS, hBS⟩ : ∃ z, z = y.lib.bss := ⟨_, rfl⟩
  obtain ⟨D, hD⟩ : ∃ z, z = y.ad 8 := ⟨_, rfl⟩
  obtain ⟨AF, hAF⟩ : ∃ z, z = y.at_ 8 := ⟨_, rfl⟩
  obtain ⟨SZ, hSZ⟩ : ∃ z, z = y.at_ 9 + y.size 9 - y.at_ 8 := ⟨_, rfl⟩
  obtain ⟨SR, hSR⟩ : ∃ z, z = SZ + BS := ⟨_, rfl⟩
  have hgv : y.second = ⟨1, AF, D, SZ, SR, 3, 4096⟩ := by rw [hSR, hSZ, hBS, hAF, hD]; rfl
  have hgs : y.seg 1 8 9 3 4096 = ⟨1, AF, D, SZ, SZ, 3, 4096⟩ := by rw [hSZ, hAF, hD]; rfl
  have a1 := ok.a 9; have a2 := ok.s 9; have a3 := ok.fit.bs
  have e1 : (SZ : Int) + (BS : Int) = (SR : Int) := by omega
  have e2 : (SR : Int) % 4294967296 = (SR : Int) := by omega
  have e2' : IntKind.u32.wrap (SR : Int) = (SR : Int) := by rw [IntKind.wrap_u32]; exact e2
  rw [hgv]
  rw [hgs] at K55
  rw [← hBS] at d5
  have K55 : Calls Tryz.prog 55 #[.pointer (some ⟨b, 0, none⟩), .int .i64 1, .int .i64 8, .int .i64 9, .int .i64 3, .int .u32 4096] W1 fun e w' => e = .returned (.agg #[.int .i64 1, .int .u32 (AF : Int), .int .u32 (D : Int), .int .u32 (SZ : Int), .int .u32 (SZ : Int), .int .i64 3, .int .u32 4096]) ∧ Below W1.heap.size W1 w' := K55
  show Calls _ _ _ _ fun e w' => e = .returned (.agg #[.int .i64 1, .int .u32 (AF : Int), .int .u32 (D : Int), .int .u32 (SZ : Int), .int .u32 (SR : Int), .int .i64 3, .int .u32 4096]) ∧ Below w.heap.size w w'
  have hlt : Hid (b < w.heap.size) := h.lt
  clear h hbw ok hBS hD hAF hSZ hSR hgv hgs a1 a2 a3
  go_enter Tryz.func24, Tryz.ntmps24
  go_wp2_with fail
  refine K55.mono ?_
  rintro e w2 ⟨rfl, hb2⟩
  have H2 : Hid (SB w w.heap.size 41 7 w2) := HZ.out.step hb2
  have d5 := keep_cell H2.out.1 d5
  obtain ⟨W4, hW4⟩ : ∃ z, w2.alloc (.cells #[.int .i64 1, .int .u32 (AF : Int), .int .u32 (D : Int), .int .u32 (SZ : Int), .int .u32 (SZ : Int), .int .i64 3, .int .u32 4096] 41) = z := ⟨_, rfl⟩
  have hb4 : Below w2.heap.size w2 W4 := by rw [← hW4]; exact (Below.refl _ _).alloc (Nat.le_refl _) _
  have hn4 := new_heap w2 #[.int .i64 1, .int .u32 (AF : Int), .int .u32 (D : Int), .int .u32 (SZ : Int), .int .u32 (SZ : Int), .int .i64 3, .int .u32 4096] 41
  rw [hW4] at hn4
  have H4 : Hid (SB w w.heap.size 41 7 W4 ∧ W4.heap[w2.heap.size]? = some (.cells #[.int .i64 1, .int .u32 (AF : Int), .int .u32 (D : Int), .int .u32 (SZ : Int), .int .u32 (SZ : Int), .int .i64 3, .int .u32 4096] 41 (0, 0)) ∧ w.heap.size < w2.heap.size) := ⟨H2.out.step hb4, hn4, by obtain ⟨o, ho, _⟩ := H2.out.2; exact (Array.getElem?_eq_some_iff.1 ho).1⟩
  have d5 := keep_cell hb4 d5
  obtain ⟨p0, p1, p2, p3, p4, p5, p6⟩ := seven hn4
  have f4 : W4.frozen? ⟨w2.heap.size, 4, none⟩ = false := by simp [World.frozen?, hn4]
  clear K55 hb2 H2 HZ hW1 hb4 hn4
  go_wp2
  clear hW4 p0 p1 p2 p3 p5 p6
  go_region
  obtain ⟨W5, hW5⟩ : ∃ z, (W4.setCell ⟨w2.heap.size, 4, none⟩ (.int .u32 (SR : Int))).drew = z := ⟨_, rfl⟩
  have hn5 : W5.heap[w2.heap.size]? = some (.cells #[.int .i64 1, .int .u32 (AF : Int), .int .u32 (D : Int), .int .u32 (SZ : Int), .int .u32 (SR : Int), .int .i64 3, .int .u32 4096] 41 (0, 0)) := by
    rw [← hW5]
    exact blk_set H4.out.2.1 4 (.int .u32 (SR : Int))
  have hs5 : SB w w.heap.size 41 7 W5 := by
    obtain ⟨hb, old, ho, hk⟩ := H4.out.1
    have hlt := H4.out.2.2
    rw [← hW5]
    have hg := grown_setk W4 w2.heap.size 4 (.int .u32 (SR : Int))
    refine ⟨(hb.grown hg hb.size (fun k e => by injection e with e; omega)).trans ⟨rfl, rfl, rfl, Nat.le_refl _, fun _ _ => rfl⟩, old, ?_, hk⟩
    exact (hg.block _ (Array.getElem?_eq_some_iff.1 ho).1 (by simp; omega)).trans ho
  rw [hW5]
  obtain ⟨hb5, old5, ho5, hk5⟩ := id hs5
  have h9 := hs5.set (Nat.le_refl _) #[.int .i64 1, .int .u32 (AF : Int), .int .u32 (D : Int), .int .u32 (SZ : Int), .int .u32 (SR : Int), .int .i64 3, .int .u32 4096] rfl
  clear hW5 d5 f4 p4 H4
  go_upto_region 3 with fail
  refine wp_region_list ?_
  refine wpList_load_row rfl 41 (.tmp 3) rfl w2.heap.size (by simp [Act.eval]) 41 _ (0, 0) _ hn5 (by rfl) (by rfl) (by rfl) ?_
  simp only [Act.put]
  refine wpList_store_row rfl 41 (.tmp 2) (.tmp 15) rfl w.heap.size #[.int .i64 1, .int .u32 (AF : Int), .int .u32 (D : Int), .int .u32 (SZ : Int), .int .u32 (SR : Int), .int .i64 3, .int .u32 4096] (by simp [Act.eval]) (by simp [Act.eval]) 41 _ ho5 (by rfl) hk5 (by simp [Value.oneCell']) ?_
  simp only [Act.put]
  obtain ⟨W9, hW9⟩ : ∃ z, W5.setRow w.heap.size #[.int .i64 1, .int .u32 (AF : Int), .int .u32 (D : Int), .int .u32 (SZ : Int), .int .u32 (SR : Int), .int .i64 3, .int .u32 4096] = z := ⟨_, rfl⟩
  rw [hW9] at h9 ⊢
  refine wpList_nil ?_
  go_wp2
  refine bodyPost_ret (v := .agg #[.int .i64 1, .int .u32 (AF : Int), .int .u32 (D : Int), .int .u32 (SZ : Int), .int .u32 (SR : Int), .int .i64 3, .int .u32 4096]) ?_ rfl ?_
  · exact results_cell_row rfl _ _ w.heap.size 41 _ (0, 0) _ rfl h9.2 (by rfl) (by rfl) (by rfl)
  · exact ⟨rfl, h9.1.1⟩
end Go.Proofs.YtgdflobcbhnimaaGreat
namespace Go.Proofs.YtgdflobcbhnimaaGreat
open Go.RowKit 
set_option linter.unusedVariables false
set_option linter.unusedSimpArgs false
set_option maxRecDepth 100000
open E (Sg B7 OwnG SlG)
theorem own_new (w : World) (gs : List Sg) (n : Nat) (hn : gs.length = n) (h : n ≤ 1000) : (w.alloc (.cells (gs.flatMap Sg.cells).toArray 41)).ownsRow w.heap.size 41 7 (.slice (some ⟨w.heap.size, 0, none⟩) n n) n (gs.flatMap Sg.cells) := by
  have hl : (gs.flatMap Sg.cells).length = n * 7 := by
    rw [← hn]
    clear hn h
    induction gs with
    | nil => rfl
    | cons g t ih => rw [List.flatMap_cons, List.length_append, ih, List.length_cons]; show 7 + _ = _; omega
  refine ⟨hl, Or.inr ⟨w.heap.size, n, _, rfl, Nat.le_refl _, new_heap w _ _, Nat.le_refl _, by unfold maxLen; omega, by simpa using hl, ?_⟩⟩
  rw [List.take_of_length_le (by simp [hl])]
theorem three {w : World} {b T : Nat} {a0 a1 a2 : Value} (h : w.heap[b]? = some (.cells #[a0, a1, a2] T (0, 0))) : w.cell? ⟨b, 0, none⟩ = some a0 ∧ w.cell? ⟨b, 1, none⟩ = some a1 ∧ w.cell? ⟨b, 2, none⟩ = some a2 := by
  refine ⟨?_, ?_, ?_⟩ <;> simp [World.cell?, h]
theorem SB.row {w0 w w' : World} {b T k : Nat} (h : SB w0 b T k w) {r : Option Nat} (hg : w.grownBy w' r) (hr : ∀ j, r = some j → w0.heap.size ≤ j ∧ j ≠ b) : SB w0 b T k w' := by
  obtain ⟨h1, old, h2, h3⟩ := h
  refine ⟨h1.grown hg h1.size (fun j e => (hr j e).1), old, (hg.block b (Array.getElem?_eq_some_iff.1 h2).1 ?_).trans h2, h3⟩
  intro e
  exact (hr b e.symm).2 rfl
theorem wpAnyH_putR {P : Program} {md : Region.Mode} {ops : Array Oper} {Q : Exit → Act → World → Prop} {w0 : World} {R : World → Prop} {i : Nat} {o : Oper} {fuel : Nat} {listed : Array Bool} {a : Act} {w : World} (hr : Region.ready md ops listed = [i]) (ho : ops[i]? = some o) (hgd : o.guard = none) (hd : o.dst = none)
    (ty : TypeId) (x y : Operand) (hop : o.op = .store ty x y) (g : Nat) (cells : Array Value) (hx : a.eval x = .pointer (some ⟨g, 0, none⟩)) (hy : a.eval y = .agg cells)
    (hS : SB w0 g ty cells.size w ∧ R w) (hb : w0.heap.size ≤ g) (hi : (P.info? ty).map (·.size) = some cells.size) (h1 : cells.all (·.oneCell') = true) (hR : R (w.setRow g cells))
    (h : ∀ w', (SB w0 g ty cells.size w' ∧ R w') → w'.heap[g]? = some (.cells cells ty (0, 0)) → wpAnyH P md ops Q (fun w' => SB w0 g ty cells.size w' ∧ R w') fuel (listed.setIfInBounds i true) a w') : wpAnyH P md ops Q (fun w' => SB w0 g ty cells.size w' ∧ R w') (fuel + 1) listed a w := by
  obtain ⟨hb1, old, hg, hold⟩ := id hS.1
  have hs := hS.1.set hb cells rfl
  exact wpAnyH_store hr ho hgd hd ty x y hop g cells hx hy ty old hg hi hold h1 ⟨hs.1, hR⟩ (h _ ⟨hs.1, hR⟩ hs.2)
/-- Segments stay whatever becomes of a block of another type. -/
theorem SlG.other {w w' : World} {v : Value} {gs : List Sg} {b : Nat} (h : SlG w v gs) (hg : w.grownBy w' (some b)) (hne : ∀ b' o n c, v = .slice (some ⟨b', o, none⟩) n c → b' ≠ b) : SlG w' v gs := by
  obtain ⟨ao, cap, rfl, h1, h2, h3, h4⟩ := h
  refine ⟨ao, cap, rfl, h1, h2, h3, fun i hi => ?_⟩
  obtain ⟨b', o, e, c⟩ := h4 i hi
  refine ⟨b', o, e, ?_⟩
  have hb := hne b' o _ _ (by rw [e])
  unfold E.At7 at c ⊢
  have key : ∀ k v, w.cell? ⟨b', k, none⟩ = some v → w'.cell? ⟨b', k, none⟩ = some v := fun k v hv => by
    rw [World.cell?_of_block (w := w) (hg.block b' (World.block_lt_of_cell? w _ hv) (by simp; exact hb))]
    exact hv
  exact ⟨key _ _ c.1, key _ _ c.2.1, key _ _ c.2.2.1, key _ _ c.2.2.2.1, key _ _ c.2.2.2.2.1, key _ _ c.2.2.2.2.2.1, key _ _ c.2.2.2.2.2.2⟩
set_option maxHeartbeats 4000000 in
theorem head62 (y : Ly) (q : Lv) (b : Nat) (w : World) (h : BY y q b w) (ok : y.Ok) :
    Calls Tryz.prog 62 #[.pointer (some ⟨b, 0, none⟩)] w fun e w' => (∃ v, e = .returned (y.head.val v) ∧ SlG w' v y.segs) ∧ Below w.heap.size w w' := by
  obtain ⟨W1, hW1⟩ : ∃ z, w.alloc (.cells #[.bool false, .int .u32 0, .slice none 0 0] 37) = z := ⟨_, rfl⟩
  have hbw : Below w.heap.size w W1 := by rw [← hW1]; exact (Below.refl _ _).alloc (Nat.le_refl _) _
  have HZ : Hid (SB w w.heap.size 37 3 W1) := ⟨hbw, _, by rw [← hW1]; exact new_heap w _ _, rfl⟩
  have HY : Hid (BY y q b w) := h
  have hlt : w.heap.size < W1.heap.size := by rw [← hW1]; simp
  have HLT : Hid (w.heap.size < W1.heap.size) := hlt
  obtain ⟨G0, hG0⟩ : ∃ z, z = y.seg 1 0 7 5 4096 := ⟨_, rfl⟩
  obtain ⟨G1, hG1⟩ : ∃ z, z = y.second := ⟨_, rfl⟩
  obtain ⟨G2, hG2⟩ : ∃ z, z = y.seg 2 2 2 3 4 := ⟨_, rfl⟩
  obtain ⟨G3, hG3⟩ : ∃ z, z = y.seg 3 1 1 1 1 := ⟨_, rfl⟩
  have K0 : Hid (∀ w', Below w.heap.size w w' → Calls Tryz.prog 55 #[.pointer (some ⟨b, 0, none⟩), .int .i64 1, .int .i64 0, .int .i64 7, .int .i64 5, .int .u32 4096] w' fun e w'' => e = .returned (.agg #[.int .i64 G0.kind, .int .u32 (G0.off : Int), .int .u32 (G0.at_ : Int), .int .u32 (G0.size : Int), .int .u32 (G0.room : Int), .int .i64 G0.prot, .int .u32 (G0.align : Int)]) ∧ Below w'.heap.size w' w'') := fun w' hw => by
    rw [hG0]; exact segment55 y q b 1 0 7 5 4096 w' (HY.out.keep hw) ok (by decide) (by decide) ok.m07
  have K1 : Hid (∀ w', Below w.heap.size w w' → Calls Tryz.prog 24 #[.pointer (some ⟨b, 0, none⟩)] w' fun e w'' => e = .returned (.agg #[.int .i64 G1.kind, .int .u32 (G1.off : Int), .int .u32 (G1.at_ : Int), .int .u32 (G1.size : Int), .int .u32 (G1.room : Int), .int .i64 G1.prot, .int .u32 (G1.align : Int)]) ∧ Below w'.heap.size w' w'') := fun w' hw => by
    rw [hG1]; exact second24 y q b w' (HY.out.keep hw) ok
  have K2 : Hid (∀ w', Below w.heap.size w w' → Calls Tryz.prog 55 #[.pointer (some ⟨b, 0, none⟩), .int .i64 2, .int .i64 2, .int .i64 2, .int .i64 3, .int .u32 4] w' fun e w'' => e = .returned (.agg #[.int .i64 G2.kind, .int .u32 (G2.off : Int), .int .u32 (G2.at_ : Int), .int .u32 (G2.size : Int), .int .u32 (G2.room : Int), .int .i64 G2.prot, .int .u32 (G2.align : Int)]) ∧ Below w'.heap.size w' w'') := fun w' hw => by
    rw [hG2]; exact segment55 y q b 2 2 2 3 4 w' (HY.out.keep hw) ok (by decide) (by decide) (by omega)
  have K3 : Hid (∀ w', Below w.heap.size w w' → Calls Tryz.prog 55 #[.pointer (some ⟨b, 0, none⟩), .int .i64 3, .int .i64 1, .int .i64 1, .int .i64 1, .int .u32 1] w' fun e w'' => e = .returned (.agg #[.int .i64 G3.kind, .int .u32 (G3.off : Int), .int .u32 (G3.at_ : Int), .int .u32 (G3.size : Int), .int .u32 (G3.room : Int), .int .i64 G3.prot, .int .u32 (G3.align : Int)]) ∧ Below w'.heap.size w' w'') := fun w' hw => by
    rw [hG3]; exact segment55 y q b 3 1 1 1 1 w' (HY.out.keep hw) ok (by decide) (by decide) (by omega)
  obtain ⟨A7, hA7⟩ : ∃ z, z = y.ad 7 := ⟨_, rfl⟩
  have K25 : Hid (∀ w', Below w.heap.size w w' → Calls Tryz.prog 25 #[.pointer (some ⟨b, 0, none⟩), .int .i64 7] w' fun e w'' => e = .returned (.int .u32 (A7 : Int)) ∧ Below w'.heap.size w' w'') := fun w' hw => by
    rw [hA7]; exact address25 y q b 7 w' (HY.out.keep hw) ok (by decide)
  have d0 : w.cell? ⟨b, 0, none⟩ = some (.bool y.lib.shared) := h.lib 0 rfl
  have d2 : w.cell? ⟨b, 2, none⟩ = some (.int .u32 (y.lib.entry : Int)) := h.lib 2 rfl
  have d8 : w.cell? ⟨b, 8, none⟩ = some (.string ⟨y.lib.interp.toArray⟩) := h.lib 8 rfl
  obtain ⟨SH, hSH⟩ : ∃ z, z = y.lib.shared := ⟨_, rfl⟩
  obtain ⟨EN, hEN⟩ : ∃ z, z = y.lib.entry := ⟨_, rfl⟩
  obtain ⟨IP, hIP⟩ : ∃ z, z = y.lib.interp := ⟨_, rfl⟩
  obtain ⟨ET, hET⟩ : ∃ z, z = A7 + EN := ⟨_, rfl⟩
  have hA7b := ok.ad_le 7; have hENb := ok.fit.en
  have e1 : (A7 : Int) + (EN : Int) = (ET : Int) := by omega
  have e2 : (ET : Int) % 4294967296 = (ET : Int) := by omega
  have e2' : IntKind.u32.wrap (ET : Int) = (ET : Int) := by rw [IntKind.wrap_u32]; exact e2
  have HGS : Hid (y.segs3 = [G0, G1, G2] ∧ y.segs = (if IP = [] then [G0, G1, G2] else [G0, G1, G2] ++ [G3])) := by
    refine ⟨by rw [hG0, hG1, hG2]; rfl, ?_⟩
    unfold Ly.segs
    rw [← hIP, ← hG3, show y.segs3 = [G0, G1, G2] by rw [hG0, hG1, hG2]; rfl]
  have hhd : ∀ v, y.head.val v = .agg #[.bool SH, .int .u32 (ET : Int), v] := fun v => by rw [hET, hSH, hA7, hEN]; rfl
  simp only [hhd]
  rw [← hSH] at d0
  rw [← hEN] at d2
  rw [← hIP] at d8
  obtain ⟨SG, hSG⟩ : ∃ z, z = y.segs := ⟨_, rfl⟩
  rw [← hSG] at HGS ⊢
  have HE : Hid (IntKind.u32.wrap ((A7 : Int) + (EN : Int)) = (ET : Int)) := by show _ = _; rw [e1]; exact e2'
  clear h hbw hlt hG0 hG1 hG2 hG3 hA7 hSH hEN hIP hET hA7b hENb hhd hSG ok
  go_enter Tryz.func62, Tryz.ntmps62
  go_wp2_with fail
  refine (K0.out W1 HZ.out.1).mono ?_
  rintro e w2 ⟨rfl, hb2⟩
  have H2 : Hid (SB w w.heap.size 37 3 w2) := HZ.out.step hb2
  have HL2 : Hid (w.heap.size < w2.heap.size) := Nat.lt_of_lt_of_le HLT.out hb2.size
  clear hb2 hW1
  go_wp2_with fail
  refine (K1.out w2 H2.out.1).mono ?_
  rintro e w3 ⟨rfl, hb3⟩
  have H3 : Hid (SB w w.heap.size 37 3 w3) := H2.out.step hb3
  have HL3 : Hid (w.heap.size < w3.heap.size) := Nat.lt_of_lt_of_le HL2.out hb3.size
  clear hb3
  go_wp2_with fail
  refine (K2.out w3 H3.out.1).mono ?_
  rintro e w4 ⟨rfl, hb4⟩
  have H4 : Hid (SB w w.heap.size 37 3 w4) := H3.out.step hb4
  have HL4 : Hid (w.heap.size < w4.heap.size) := Nat.lt_of_lt_of_le HL3.out hb4.size
  clear hb4
  obtain ⟨W5, hW5⟩ : ∃ z, w4.alloc (.cells #[.int .i64 G0.kind, .int .u32 (G0.off : Int), .int .u32 (G0.at_ : Int), .int .u32 (G0.size : Int), .int .u32 (G0.room : Int), .int .i64 G0.prot, .int .u32 (G0.align : Int), .int .i64 G1.kind, .int .u32 (G1.off : Int), .int .u32 (G1.at_ : Int), .int .u32 (G1.size : Int), .int .u32 (G1.room : Int), .int .i64 G1.prot, .int .u32 (G1.align : Int), .int .i64 G2.kind, .int .u32 (G2.off : Int), .int .u32 (G2.at_ : Int), .int .u32 (G2.size : Int), .int .u32 (G2.room : Int), .int .i64 G2.prot, .int .u32 (G2.align : Int)] 41) = z := ⟨_, rfl⟩
  have ho5 : W5.ownsRow w4.heap.size 41 7 (.slice (some ⟨w4.heap.size, 0, none⟩) 3 3) 3 (([G0, G1, G2]).flatMap Sg.cells) := by
    rw [← hW5]
    exact own_new w4 [G0, G1, G2] 3 rfl (by decide)
  have hb5 : Below w4.heap.size w4 W5 := by rw [← hW5]; exact (Below.refl _ _).alloc (Nat.le_refl _) _
  have H5 : Hid (SB w w.heap.size 37 3 W5 ∧ W5.ownsRow w4.heap.size 41 7 (.slice (some ⟨w4.heap.size, 0, none⟩) 3 3) 3 (([G0, G1, G2]).flatMap Sg.cells)) := ⟨H4.out.step hb5, ho5⟩
  have d8 := keep_cell H5.out.1.1 d8
  clear hb5 ho5
  cases hip : decide (IP = []) with
  | true =>
    have hip := of_decide_eq_true hip
    subst hip
    have HS : Hid (SG = [G0, G1, G2]) := by show _ = _; rw [HGS.out.2, if_pos rfl]
    go_upto_region 4 with fail
    obtain rfl := HS.out
    have H8 : Hid (SB w w.heap.size 37 3 W5 ∧ SlG W5 (.slice (some ⟨w4.heap.size, 0, none⟩) 3 3) [G0, G1, G2]) := ⟨H5.out.1, OwnG.sl (B := w4.heap.size) H5.out.2⟩
    have HOC : Hid (#[Value.bool SH, .int .u32 (ET : Int), .slice (some ⟨w4.heap.size, 0, none⟩) 3 3].all (·.oneCell') = true ∧ ∀ b' o n c, Value.slice (some ⟨w4.heap.size, 0, none⟩) 3 3 = .slice (some ⟨b', o, none⟩) n c → b' ≠ w.heap.size) := ⟨by simp [Value.oneCell'], fun b' o n c e => by have := HL4.out; injection e with e1 _ _; injection e1 with e1; injection e1 with e1 _ _; omega⟩
    generalize (some (⟨w4.heap.size, 0, none⟩ : Addr)) = SA at H8 HOC ⊢
    clear hW5 d8 H5
    refine wp_region_held_drew (S := fun w' => SB w w.heap.size 37 3 w' ∧ SlG w' (.slice SA 3 3) [G0, G1, G2]) (by kernel_rfl) (by exact ⟨H8.out.1.step ((Below.refl _ _).trans ⟨rfl, rfl, rfl, Nat.le_refl _, fun _ _ => rfl⟩), H8.out.2⟩) (fun hS => ?_)
    refine wpAnyH_take (i := 0) (v := .pointer (some ⟨b, 0, none⟩)) rfl (by kernel_rfl) (by kernel_rfl) (by kernel_rfl) (fun _ _ _ h => h) (Or.inl ⟨by kernel_rfl, fun wq hSw => ?_⟩) hS ?_
    · go_simp
    simp only [Act.put, List.getElem_toArray, List.getElem_cons_zero, List.getElem_cons_succ, List.setIfInBounds_toArray, List.set_cons_zero, List.set_cons_succ]
    refine wpAnyH_take (i := 1) (v := .pointer (some ⟨b, 0, none⟩)) rfl (by kernel_rfl) (by kernel_rfl) (by kernel_rfl) (fun _ _ _ h => h) (Or.inl ⟨by kernel_rfl, fun wq hSw => ?_⟩) hS ?_
    · go_simp
    simp only [Act.put, List.getElem_toArray, List.getElem_cons_zero, List.getElem_cons_succ, List.setIfInBounds_toArray, List.set_cons_zero, List.set_cons_succ]
    refine wpAnyH_take (i := 2) (v := .pointer (some ⟨b, 0, none⟩)) rfl (by kernel_rfl) (by kernel_rfl) (by kernel_rfl) (fun _ _ _ h => h) (Or.inl ⟨by kernel_rfl, fun wq hSw => ?_⟩) hS ?_
    · go_simp
    simp only [Act.put, List.getElem_toArray, List.getElem_cons_zero, List.getElem_cons_succ, List.setIfInBounds_toArray, List.set_cons_zero, List.set_cons_succ]
    refine wpAnyH_take (i := 3) (v := .pointer (some ⟨b, 0, none⟩)) rfl (by kernel_rfl) (by kernel_rfl) (by kernel_rfl) (fun _ _ _ h => h) (Or.inl ⟨by kernel_rfl, fun wq hSw => ?_⟩) hS ?_
    · go_simp
    simp only [Act.put, List.getElem_toArray, List.getElem_cons_zero, List.getElem_cons_succ, List.setIfInBounds_toArray, List.set_cons_zero, List.set_cons_succ]
    refine wpAnyH_take (i := 4) (v := .bool SH) rfl (by kernel_rfl) (by kernel_rfl) (by kernel_rfl) (fun _ _ _ h => h) (Or.inl ⟨by kernel_rfl, fun wq hSw => ?_⟩) hS ?_
    · have p_ := keep_cell hSw.1.1 d0; go_simp
    simp only [Act.put, List.getElem_toArray, List.getElem_cons_zero, List.getElem_cons_succ, List.setIfInBounds_toArray, List.set_cons_zero, List.set_cons_succ]
    refine wpAnyH_take (i := 5) (v := .pointer (some ⟨b, 0, none⟩)) rfl (by kernel_rfl) (by kernel_rfl) (by kernel_rfl) (fun _ _ _ h => h) (Or.inl ⟨by kernel_rfl, fun wq hSw => ?_⟩) hS ?_
    · go_simp
    simp only [Act.put, List.getElem_toArray, List.getElem_cons_zero, List.getElem_cons_succ, List.setIfInBounds_toArray, List.set_cons_zero, List.set_cons_succ]
    refine wpAnyH_take (i := 7) (v := .pointer (some ⟨b, 0, none⟩)) rfl (by kernel_rfl) (by kernel_rfl) (by kernel_rfl) (fun _ _ _ h => h) (Or.inl ⟨by kernel_rfl, fun wq hSw => ?_⟩) hS ?_
    · go_simp
    simp only [Act.put, List.getElem_toArray, List.getElem_cons_zero, List.getElem_cons_succ, List.setIfInBounds_toArray, List.set_cons_zero, List.set_cons_succ]
    refine wpAnyH_take (i := 8) (v := .pointer (some ⟨b, 0, none⟩)) rfl (by kernel_rfl) (by kernel_rfl) (by kernel_rfl) (fun _ _ _ h => h) (Or.inl ⟨by kernel_rfl, fun wq hSw => ?_⟩) hS ?_
    · go_simp
    simp only [Act.put, List.getElem_toArray, List.getElem_cons_zero, List.getElem_cons_succ, List.setIfInBounds_toArray, List.set_cons_zero, List.set_cons_succ]
    refine wpAnyH_take (i := 9) (v := .pointer (some ⟨b, 0, none⟩)) rfl (by kernel_rfl) (by kernel_rfl) (by kernel_rfl) (fun _ _ _ h => h) (Or.inl ⟨by kernel_rfl, fun wq hSw => ?_⟩) hS ?_
    · go_simp
    simp only [Act.put, List.getElem_toArray, List.getElem_cons_zero, List.getElem_cons_succ, List.setIfInBounds_toArray, List.set_cons_zero, List.set_cons_succ]
    refine wpAnyH_take (i := 10) (v := .pointer (some ⟨b, 2, none⟩)) rfl (by kernel_rfl) (by kernel_rfl) (by kernel_rfl) (fun _ _ _ h => h) (Or.inl ⟨by kernel_rfl, fun wq hSw => ?_⟩) hS ?_
    · go_simp
    simp only [Act.put, List.getElem_toArray, List.getElem_cons_zero, List.getElem_cons_succ, List.setIfInBounds_toArray, List.set_cons_zero, List.set_cons_succ]
    refine wpAnyH_take (i := 11) (v := .int .u32 (EN : Int)) rfl (by kernel_rfl) (by kernel_rfl) (by kernel_rfl) (fun _ _ _ h => h) (Or.inl ⟨by kernel_rfl, fun wq hSw => ?_⟩) hS ?_
    · have p_ := keep_cell hSw.1.1 d2; go_simp
    simp only [Act.put, List.getElem_toArray, List.getElem_cons_zero, List.getElem_cons_succ, List.setIfInBounds_toArray, List.set_cons_zero, List.set_cons_succ]
    refine wpAnyH_take (i := 13) (v := .slice SA 3 3) rfl (by kernel_rfl) (by kernel_rfl) (by kernel_rfl) (fun _ _ _ h => h) (Or.inl ⟨by kernel_rfl, fun wq hSw => ?_⟩) hS ?_
    · go_simp
    simp only [Act.put, List.getElem_toArray, List.getElem_cons_zero, List.getElem_cons_succ, List.setIfInBounds_toArray, List.set_cons_zero, List.set_cons_succ]
    refine wpAnyH_ready (rs := [6]) (by kernel_rfl) (by simp) (AllReadyH.cons rfl (fun K hK => ?_) AllReadyH.nil)
    refine if_yes (by kernel_rfl) ?_
    simp [go_sem]
    refine (K25.out _ hS.1.1).mono ?_
    rintro e w6 ⟨rfl, hb6⟩
    have hS := And.intro (hS.1.step hb6) (hS.2.keep hb6)
    refine hK.out _ _ hS (fun _ => ?_)
    clear hK K hb6
    try simp only [Act.put, List.getElem_toArray, List.getElem_cons_zero, List.getElem_cons_succ, List.setIfInBounds_toArray, List.set_cons_zero, List.set_cons_succ]
    refine wpAnyH_take (i := 12) (v := .int .u32 (ET : Int)) rfl (by kernel_rfl) (by kernel_rfl) (by kernel_rfl) (fun _ _ _ h => h) (Or.inl ⟨by kernel_rfl, fun wq hSw => ?_⟩) hS ?_
    · go_simp
    simp only [Act.put, List.getElem_toArray, List.getElem_cons_zero, List.getElem_cons_succ, List.setIfInBounds_toArray, List.set_cons_zero, List.set_cons_succ]
    refine wpAnyH_take (i := 14) (v := .agg #[.bool SH, .int .u32 (ET : Int), .slice SA 3 3]) rfl (by kernel_rfl) (by kernel_rfl) (by kernel_rfl) (fun _ _ _ h => h) (Or.inl ⟨by kernel_rfl, fun wq hSw => ?_⟩) hS ?_
    · go_simp
    simp only [Act.put, List.getElem_toArray, List.getElem_cons_zero, List.getElem_cons_succ, List.setIfInBounds_toArray, List.set_cons_zero, List.set_cons_succ]
    refine wpAnyH_putR (i := 15) (by kernel_rfl) rfl (by kernel_rfl) (by kernel_rfl) 37 (.tmp 2) (.tmp 36) (by kernel_rfl) w.heap.size #[.bool SH, .int .u32 (ET : Int), .slice SA 3 3] (by kernel_rfl) (by kernel_rfl) hS (Nat.le_refl _) (by kernel_rfl) HOC.out.1 (SlG.other hS.2 (grown_setRow _ _ _) HOC.out.2) (fun W9 hS i9 => ?_)
    refine wpAnyH_done (by kernel_rfl) ?_ _
    have H9 : Hid (Below w.heap.size w W9) := hS.1.1
    have HSL := hS.2
    obtain ⟨s0, s1, s2⟩ := three i9
    clear hS i9 d0 d2 K25 HZ H8
    go_wp2
    refine bodyPost_ret (v := .agg #[.bool SH, .int .u32 (ET : Int), .slice SA 3 3]) ?_ rfl ?_
    · rw [results_cell1 rfl]; simp [go_sem, s0, s1, s2]
    · exact ⟨⟨_, rfl, HSL⟩, H9.out⟩
  | false =>
    have hip := of_decide_eq_false hip
    obtain ⟨IB, hIB⟩ : ∃ B : ByteArray, B = ⟨IP.toArray⟩ := ⟨_, rfl⟩
    have hIl : IB.toList = IP := by rw [hIB]; exact E.bal _
    have ie1 : IB.toList.isEmpty = false := by rw [hIl]; cases IP with | nil => exact absurd rfl hip | cons a t => rfl
    have ie2 : ¬ IB.toList = [] := by rw [hIl]; exact hip
    rw [← hIB] at d8
    have HS : Hid (SG = [G0, G1, G2] ++ [G3]) := by show _ = _; rw [HGS.out.2, if_neg hip]
    clear hIB hIl hip
    go_upto_region 3 with fail
    go_wp2_with fail
    refine (K3.out W5 H5.out.1.1).mono ?_
    rintro e w6 ⟨rfl, hb6⟩
    have H6 : Hid (SB w w.heap.size 37 3 w6 ∧ w6.ownsRow w4.heap.size 41 7 (.slice (some ⟨w4.heap.size, 0, none⟩) 3 3) 3 (([G0, G1, G2]).flatMap Sg.cells) ∧ w4.heap.size ≤ w6.heap.size) := ⟨H5.out.1.step hb6, E.own_keep H5.out.2 hb6, Nat.le_trans (by obtain ⟨_, _, ho, _⟩ := H5.out.1; have := hb6.size; rw [← hW5] at this; simp at this; omega) (Nat.le_refl _)⟩
    clear hW5 hb6 d8 ie1 ie2
    obtain ⟨W7, hW7⟩ : ∃ z, w6.alloc (.cells #[.int .i64 G3.kind, .int .u32 (G3.off : Int), .int .u32 (G3.at_ : Int), .int .u32 (G3.size : Int), .int .u32 (G3.room : Int), .int .i64 G3.prot, .int .u32 (G3.align : Int)] 41) = z := ⟨_, rfl⟩
    have hb7 : Below w6.heap.size w6 W7 := by rw [← hW7]; exact (Below.refl _ _).alloc (Nat.le_refl _) _
    have hn7 : W7.heap[w6.heap.size]? = some (.cells #[.int .i64 G3.kind, .int .u32 (G3.off : Int), .int .u32 (G3.at_ : Int), .int .u32 (G3.size : Int), .int .u32 (G3.room : Int), .int .i64 G3.prot, .int .u32 (G3.align : Int)] 41 (0, 0)) := by rw [← hW7]; exact new_heap w6 _ _
    have HC7 := E.cells7 W7 w6.heap.size G3 hn7
    have H7 : Hid (SB w w.heap.size 37 3 W7 ∧ W7.ownsRow w4.heap.size 41 7 (.slice (some ⟨w4.heap.size, 0, none⟩) 3 3) 3 (([G0, G1, G2]).flatMap Sg.cells) ∧ w4.heap.size ≤ W7.heap.size ∧ ∀ j u, (G3.cells)[j]? = some u → W7.cell? ((⟨w6.heap.size, 0, none⟩ : Addr).add j) = some u) := ⟨H6.out.1.step hb7, E.own_keep H6.out.2.1 hb7, Nat.le_trans H6.out.2.2 hb7.size, HC7⟩
    clear hb7 hn7 HC7 H6
    obtain ⟨i0, hi1, hi2, hi3, hi4⟩ := E.info39
    go_wp2_with (at_builtin; refine wpList_append_own _ rfl _ _ 35 rfl w4.heap.size 41 i0 _ 7 40 Tryz.underlying35 hi1 hi2 hi3 hi4 rfl (by decide) _ _ _ rfl H7.out.2.1 ⟨w6.heap.size, 0, none⟩ 1 1 G3.cells rfl rfl H7.out.2.2.2 ?_ ?_ ?_ H7.out.2.2.1 ?_)
    · intro u hu; simp [Sg.cells] at hu; rcases hu with rfl | rfl | rfl | rfl | rfl | rfl | rfl <;> rfl
    · unfold maxLen; decide
    · decide
    intro sv w8 how8 hgr8 _
    have hge : ∀ j, (Value.slice (some ⟨w4.heap.size, 0, none⟩) 3 3).ownBlock = some j ∨ sv.ownBlock = some j → w4.heap.size ≤ j := fun j hj => by
      rcases hj with hj | hj
      · simp [Value.ownBlock] at hj; omega
      · exact OwnG.ge (gs := [G0, G1, G2] ++ [G3]) (by show w8.ownsRow _ _ _ _ _ _; rw [List.flatMap_append, show [G3].flatMap Sg.cells = G3.cells by simp]; exact how8) j hj
    have how9 : OwnG w4.heap.size w8 sv ([G0, G1, G2] ++ [G3]) := by
      show w8.ownsRow _ _ _ _ _ _
      rw [List.flatMap_append, show [G3].flatMap Sg.cells = G3.cells by simp]
      exact how8
    have H8 : Hid (SB w w.heap.size 37 3 w8 ∧ SlG w8 sv ([G0, G1, G2] ++ [G3])) := ⟨H7.out.1.row hgr8 (fun j e => by have := hge j (Or.inl e); have := HL4.out; omega), how9.sl⟩
    have HOC : Hid (#[Value.bool SH, .int .u32 (ET : Int), sv].all (·.oneCell') = true ∧ ∀ b' o n c, sv = .slice (some ⟨b', o, none⟩) n c → b' ≠ w.heap.size) := by
      obtain ⟨sa, sc, rfl⟩ := how9.shape
      refine ⟨by simp [Value.oneCell'], fun b' o n c e => ?_⟩
      have := hge b' (Or.inr (by rw [e]; rfl))
      have := HL4.out
      omega
    obtain ⟨sa, sc, hsv⟩ := how9.shape
    clear how8 how9 hgr8 hge hW7 H7 hi1 hi2 hi3 hi4
    subst hsv
    obtain rfl := HS.out
    have H8 : Hid (SB w w.heap.size 37 3 w8 ∧ SlG w8 (.slice sa 4 sc) ([G0, G1, G2] ++ [G3])) := H8
    have HOC : Hid (#[Value.bool SH, .int .u32 (ET : Int), .slice sa 4 sc].all (·.oneCell') = true ∧ ∀ b' o n c, Value.slice sa 4 sc = .slice (some ⟨b', o, none⟩) n c → b' ≠ w.heap.size) := HOC
    go_upto_region 4 with fail
    refine wp_region_held_drew (S := fun w' => SB w w.heap.size 37 3 w' ∧ SlG w' (.slice sa 4 sc) ([G0, G1, G2] ++ [G3])) (by kernel_rfl) (by exact ⟨H8.out.1.step ((Below.refl _ _).trans ⟨rfl, rfl, rfl, Nat.le_refl _, fun _ _ => rfl⟩), H8.out.2⟩) (fun hS => ?_)
    refine wpAnyH_take (i := 0) (v := .pointer (some ⟨b, 0, none⟩)) rfl (by kernel_rfl) (by kernel_rfl) (by kernel_rfl) (fun _ _ _ h => h) (Or.inl ⟨by kernel_rfl, fun wq hSw => ?_⟩) hS ?_
    · go_simp
    simp only [Act.put, List.getElem_toArray, List.getElem_cons_zero, List.getElem_cons_succ, List.setIfInBounds_toArray, List.set_cons_zero, List.set_cons_succ]
    refine wpAnyH_take (i := 1) (v := .pointer (some ⟨b, 0, none⟩)) rfl (by kernel_rfl) (by kernel_rfl) (by kernel_rfl) (fun _ _ _ h => h) (Or.inl ⟨by kernel_rfl, fun wq hSw => ?_⟩) hS ?_
    · go_simp
    simp only [Act.put, List.getElem_toArray, List.getElem_cons_zero, List.getElem_cons_succ, List.setIfInBounds_toArray, List.set_cons_zero, List.set_cons_succ]
    refine wpAnyH_take (i := 2) (v := .pointer (some ⟨b, 0, none⟩)) rfl (by kernel_rfl) (by kernel_rfl) (by kernel_rfl) (fun _ _ _ h => h) (Or.inl ⟨by kernel_rfl, fun wq hSw => ?_⟩) hS ?_
    · go_simp
    simp only [Act.put, List.getElem_toArray, List.getElem_cons_zero, List.getElem_cons_succ, List.setIfInBounds_toArray, List.set_cons_zero, List.set_cons_succ]
    refine wpAnyH_take (i := 3) (v := .pointer (some ⟨b, 0, none⟩)) rfl (by kernel_rfl) (by kernel_rfl) (by kernel_rfl) (fun _ _ _ h => h) (Or.inl ⟨by kernel_rfl, fun wq hSw => ?_⟩) hS ?_
    · go_simp
    simp only [Act.put, List.getElem_toArray, List.getElem_cons_zero, List.getElem_cons_succ, List.setIfInBounds_toArray, List.set_cons_zero, List.set_cons_succ]
    refine wpAnyH_take (i := 4) (v := .bool SH) rfl (by kernel_rfl) (by kernel_rfl) (by kernel_rfl) (fun _ _ _ h => h) (Or.inl ⟨by kernel_rfl, fun wq hSw => ?_⟩) hS ?_
    · have p_ := keep_cell hSw.1.1 d0; go_simp
    simp only [Act.put, List.getElem_toArray, List.getElem_cons_zero, List.getElem_cons_succ, List.setIfInBounds_toArray, List.set_cons_zero, List.set_cons_succ]
    refine wpAnyH_take (i := 5) (v := .pointer (some ⟨b, 0, none⟩)) rfl (by kernel_rfl) (by kernel_rfl) (by kernel_rfl) (fun _ _ _ h => h) (Or.inl ⟨by kernel_rfl, fun wq hSw => ?_⟩) hS ?_
    · go_simp
    simp only [Act.put, List.getElem_toArray, List.getElem_cons_zero, List.getElem_cons_succ, List.setIfInBounds_toArray, List.set_cons_zero, List.set_cons_succ]
    refine wpAnyH_take (i := 7) (v := .pointer (some ⟨b, 0, none⟩)) rfl (by kernel_rfl) (by kernel_rfl) (by kernel_rfl) (fun _ _ _ h => h) (Or.inl ⟨by kernel_rfl, fun wq hSw => ?_⟩) hS ?_
    · go_simp
    simp only [Act.put, List.getElem_toArray, List.getElem_cons_zero, List.getElem_cons_succ, List.setIfInBounds_toArray, List.set_cons_zero, List.set_cons_succ]
    refine wpAnyH_take (i := 8) (v := .pointer (some ⟨b, 0, none⟩)) rfl (by kernel_rfl) (by kernel_rfl) (by kernel_rfl) (fun _ _ _ h => h) (Or.inl ⟨by kernel_rfl, fun wq hSw => ?_⟩) hS ?_
    · go_simp
    simp only [Act.put, List.getElem_toArray, List.getElem_cons_zero, List.getElem_cons_succ, List.setIfInBounds_toArray, List.set_cons_zero, List.set_cons_succ]
    refine wpAnyH_take (i := 9) (v := .pointer (some ⟨b, 0, none⟩)) rfl (by kernel_rfl) (by kernel_rfl) (by kernel_rfl) (fun _ _ _ h => h) (Or.inl ⟨by kernel_rfl, fun wq hSw => ?_⟩) hS ?_
    · go_simp
    simp only [Act.put, List.getElem_toArray, List.getElem_cons_zero, List.getElem_cons_succ, List.setIfInBounds_toArray, List.set_cons_zero, List.set_cons_succ]
    refine wpAnyH_take (i := 10) (v := .pointer (some ⟨b, 2, none⟩)) rfl (by kernel_rfl) (by kernel_rfl) (by kernel_rfl) (fun _ _ _ h => h) (Or.inl ⟨by kernel_rfl, fun wq hSw => ?_⟩) hS ?_
    · go_simp
    simp only [Act.put, List.getElem_toArray, List.getElem_cons_zero, List.getElem_cons_succ, List.setIfInBounds_toArray, List.set_cons_zero, List.set_cons_succ]
    refine wpAnyH_take (i := 11) (v := .int .u32 (EN : Int)) rfl (by kernel_rfl) (by kernel_rfl) (by kernel_rfl) (fun _ _ _ h => h) (Or.inl ⟨by kernel_rfl, fun wq hSw => ?_⟩) hS ?_
    · have p_ := keep_cell hSw.1.1 d2; go_simp
    simp only [Act.put, List.getElem_toArray, List.getElem_cons_zero, List.getElem_cons_succ, List.setIfInBounds_toArray, List.set_cons_zero, List.set_cons_succ]
    refine wpAnyH_take (i := 13) (v := .slice sa 4 sc) rfl (by kernel_rfl) (by kernel_rfl) (by kernel_rfl) (fun _ _ _ h => h) (Or.inl ⟨by kernel_rfl, fun wq hSw => ?_⟩) hS ?_
    · go_simp
    simp only [Act.put, List.getElem_toArray, List.getElem_cons_zero, List.getElem_cons_succ, List.setIfInBounds_toArray, List.set_cons_zero, List.set_cons_succ]
    refine wpAnyH_ready (rs := [6]) (by kernel_rfl) (by simp) (AllReadyH.cons rfl (fun K hK => ?_) AllReadyH.nil)
    refine if_yes (by kernel_rfl) ?_
    simp [go_sem]
    refine (K25.out _ hS.1.1).mono ?_
    rintro e w6 ⟨rfl, hb6⟩
    have hS := And.intro (hS.1.step hb6) (hS.2.keep hb6)
    refine hK.out _ _ hS (fun _ => ?_)
    clear hK K hb6
    try simp only [Act.put, List.getElem_toArray, List.getElem_cons_zero, List.getElem_cons_succ, List.setIfInBounds_toArray, List.set_cons_zero, List.set_cons_succ]
    refine wpAnyH_take (i := 12) (v := .int .u32 (ET : Int)) rfl (by kernel_rfl) (by kernel_rfl) (by kernel_rfl) (fun _ _ _ h => h) (Or.inl ⟨by kernel_rfl, fun wq hSw => ?_⟩) hS ?_
    · go_simp
    simp only [Act.put, List.getElem_toArray, List.getElem_cons_zero, List.getElem_cons_succ, List.setIfInBounds_toArray, List.set_cons_zero, List.set_cons_succ]
    refine wpAnyH_take (i := 14) (v := .agg #[.bool SH, .int .u32 (ET : Int), .slice sa 4 sc]) rfl (by kernel_rfl) (by kernel_rfl) (by kernel_rfl) (fun _ _ _ h => h) (Or.inl ⟨by kernel_rfl, fun wq hSw => ?_⟩) hS ?_
    · go_simp
    simp only [Act.put, List.getElem_toArray, List.getElem_cons_zero, List.getElem_cons_succ, List.setIfInBounds_toArray, List.set_cons_zero, List.set_cons_succ]
    refine wpAnyH_putR (i := 15) (by kernel_rfl) rfl (by kernel_rfl) (by kernel_rfl) 37 (.tmp 2) (.tmp 36) (by kernel_rfl) w.heap.size #[.bool SH, .int .u32 (ET : Int), .slice sa 4 sc] (by kernel_rfl) (by kernel_rfl) hS (Nat.le_refl _) (by kernel_rfl) HOC.out.1 (SlG.other hS.2 (grown_setRow _ _ _) HOC.out.2) (fun W9 hS i9 => ?_)
    refine wpAnyH_done (by kernel_rfl) ?_ _
    have H9 : Hid (Below w.heap.size w W9) := hS.1.1
    have HSL := hS.2
    obtain ⟨s0, s1, s2⟩ := three i9
    clear hS i9 d0 d2 K25 HZ H8
    go_wp2
    refine bodyPost_ret (v := .agg #[.bool SH, .int .u32 (ET : Int), .slice sa 4 sc]) ?_ rfl ?_
    · rw [results_cell1 rfl]; simp [go_sem, s0, s1, s2]
    · exact ⟨⟨_, rfl, HSL⟩, H9.out⟩
end Go.Proofs.YtgdflobcbhnimaaGreat
