/- What is proved here: a table: the document's Write. -/
import Derived.Test.YtmkfgoacbehhcaaNn
import Derived.Test.YtmkfgoacbehhcaaNz
import Derived.Test.YtmkfgoacbehhcaaNe
import Derived.OrdersHeld
namespace Go.Proofs.Ytmkfgoacbehhcaa
open Go.RowKit
set_option linter.unusedVariables false
set_option linter.unusedSimpArgs false
set_option maxRecDepth 100000
attribute [local go_sem] Oper.semAt_some
theorem mk46 (n : Nat) (hn : n ≤ 1000) (w : World) : (Instr.makeSlice 46 (.int .i64 (n : Int)) (.int .i64 (n : Int))).run Try.prog w = .ok (.slice (some ⟨w.heap.size, 0, none⟩) n n) (w.alloc (.cells (List.replicate n (.int .u8 0)).toArray 5)) := by
  have h := run_make_row' (P := Try.prog) 46 5 (.int .u8 0) 1 Try.underlying46 (by kernel_rfl) rfl .i64 .i64 n (by omega) (by omega) w
  rw [h]
  have e : madeCells #[.int .u8 0] n = (List.replicate n (.int .u8 0)).toArray := by
    apply Array.ext
    · simp [size_madeCells]
    · intro i h1 h2
      simp [madeCells, Nat.mod_one]
  rw [e]
theorem mk16 (w : World) : (Instr.makeSlice 46 (.int .i64 16) (.int .i64 16)).run Try.prog w = .ok (.slice (some ⟨w.heap.size, 0, none⟩) 16 16) (w.alloc (.cells (zero16.map W.byteC).toArray 5)) := mk46 16 (by decide) w
theorem T3.set0 {t : Tb} {b : Nat} {w : World} (h : T3 t b w) (x : L8) : T3 ⟨x, t.strs, t.hash⟩ b (w.setCell ⟨b, 0, none⟩ (.string ⟨x.toArray⟩)) := by
  have := blk_set h 0 (.string ⟨x.toArray⟩)
  exact this
theorem T3.set1 {t : Tb} {b : Nat} {w : World} (h : T3 t b w) (x : L8) : T3 ⟨t.syms, x, t.hash⟩ b (w.setCell ⟨b, 1, none⟩ (.string ⟨x.toArray⟩)) := by
  have := blk_set h 1 (.string ⟨x.toArray⟩)
  exact this
theorem rowAt_below {w w' : World} {b : Nat} {cs : List Value} (h : W.RowAt w b cs) (k : Below w.heap.size w w') : W.RowAt w' b cs := (k.block b (Array.getElem?_eq_some_iff.1 h).1).trans h
set_option maxHeartbeats 8000000 in
theorem rwrite19 (l : List Sy) (v : Value) (ways : Int) (w : World) (hs : SlY w v l) (hb : ∀ s ∈ l, s.Bd) :
    Calls Try.prog 19 #[v, .int .i64 ways] w fun e w' => e = .returned ((wrT l ways).val) ∧ Below w.heap.size w w' := by
  obtain ⟨W1, hW1⟩ : ∃ z, w.alloc (.cells #[.string ⟨#[]⟩, .string ⟨#[]⟩, .string ⟨#[]⟩] 23) = z := ⟨_, rfl⟩
  have hb1 : Below w.heap.size w W1 := by rw [← hW1]; exact (Below.refl _ _).alloc (Nat.le_refl _) _
  have HZ : Hid (T3 zeroT w.heap.size W1 ∧ Below w.heap.size w W1) := by rw [← hW1]; exact ⟨T3.new zeroT w, by rw [hW1]; exact hb1⟩
  have K17 := rfit17 l v W1 (hs.keep hb1)
  have HS : Hid (∀ w', Below w.heap.size w w' → SlY w' v l) := fun w' h => hs.keep h
  have HBD : Hid (∀ s ∈ l, s.Bd) := hb
  obtain ⟨ao, cap, rfl, _⟩ := id hs
  clear hs hb hb1
  cases hf : fitL l with
  | false =>
    have HE : Hid (wrT l ways = zeroT) := by
      show _ = _
      unfold wrT okW
      rw [hf]; rfl
    rw [hf] at K17
    clear hf
    go_enter Try.func19, Try.ntmps19
    go_wp2_with fail
    refine K17.mono ?_
    rintro e w2 ⟨rfl, hb2⟩
    have zz := HZ.out.1.keep hb2
    have HBX : Hid (Below w.heap.size w w2) := HZ.out.2.trans (hb2.mono HZ.out.2.size)
    clear K17 hW1 hb2
    obtain ⟨q0, q1, q2⟩ := zz.cells
    have f0 := zz.frozen 0
    have f1 := zz.frozen 1
    have f2 := zz.frozen 2
    obtain ⟨W9, hW9⟩ : ∃ z, ((w2.setCell ⟨w.heap.size, 0, none⟩ (.string ⟨#[]⟩)).setCell ⟨w.heap.size, 1, none⟩ (.string ⟨#[]⟩)).setCell ⟨w.heap.size, 2, none⟩ (.string ⟨#[]⟩) = z := ⟨_, rfl⟩
    have g9 := st3_grown w2 w.heap.size zeroT
    have i9 := st3_in zz zeroT
    rw [show st3 w2 w.heap.size zeroT = W9 from hW9] at g9 i9
    have hc9 : W9.cell? ⟨w.heap.size, 0, none⟩ = some (.string ⟨#[]⟩) ∧ W9.cell? ⟨w.heap.size, 1, none⟩ = some (.string ⟨#[]⟩) ∧ W9.cell? ⟨w.heap.size, 2, none⟩ = some (.string ⟨#[]⟩) := i9.cells
    obtain ⟨s0, s1, s2⟩ := hc9
    have HB9 : Hid (Below w.heap.size w W9) := HBX.out.grown g9 HBX.out.size (fun k e => by injection e with e; omega)
    clear zz g9 i9
    go_wp2
    refine bodyPost_ret (v := .agg #[.string ⟨#[]⟩, .string ⟨#[]⟩, .string ⟨#[]⟩]) ?_ rfl ?_
    · rw [results_cell1 rfl]; simp [go_sem, s0, s1, s2]
    · exact ⟨by rw [HE.out]; rfl, HB9.out⟩
  | true =>
    rw [hf] at K17
    have HFT : Hid ((∀ s ∈ l, FitY s) ∧ l.length ≤ 200 ∧ fitL l = true) := ⟨(fitL_parts hf).2, (fitL_parts hf).1, hf⟩
    clear hf
    by_cases h1 : ways < 1
    · have d1 := decide_eq_true h1
      have HE : Hid (wrT l ways = zeroT) := by
        show _ = _
        unfold wrT okW
        rw [decide_eq_false (by omega), Bool.and_false]; rfl
      go_enter Try.func19, Try.ntmps19
      go_wp2_with fail
      refine K17.mono ?_
      rintro e w2 ⟨rfl, hb2⟩
      have zz := HZ.out.1.keep hb2
      have HBX : Hid (Below w.heap.size w w2) := HZ.out.2.trans (hb2.mono HZ.out.2.size)
      clear K17 hW1 hb2
      obtain ⟨q0, q1, q2⟩ := zz.cells
      have f0 := zz.frozen 0
      have f1 := zz.frozen 1
      have f2 := zz.frozen 2
      obtain ⟨W9, hW9⟩ : ∃ z, ((w2.setCell ⟨w.heap.size, 0, none⟩ (.string ⟨#[]⟩)).setCell ⟨w.heap.size, 1, none⟩ (.string ⟨#[]⟩)).setCell ⟨w.heap.size, 2, none⟩ (.string ⟨#[]⟩) = z := ⟨_, rfl⟩
      have g9 := st3_grown w2 w.heap.size zeroT
      have i9 := st3_in zz zeroT
      rw [show st3 w2 w.heap.size zeroT = W9 from hW9] at g9 i9
      have hc9 : W9.cell? ⟨w.heap.size, 0, none⟩ = some (.string ⟨#[]⟩) ∧ W9.cell? ⟨w.heap.size, 1, none⟩ = some (.string ⟨#[]⟩) ∧ W9.cell? ⟨w.heap.size, 2, none⟩ = some (.string ⟨#[]⟩) := i9.cells
      obtain ⟨s0, s1, s2⟩ := hc9
      have HB9 : Hid (Below w.heap.size w W9) := HBX.out.grown g9 HBX.out.size (fun k e => by injection e with e; omega)
      clear zz g9 i9
      go_wp2
      refine bodyPost_ret (v := .agg #[.string ⟨#[]⟩, .string ⟨#[]⟩, .string ⟨#[]⟩]) ?_ rfl ?_
      · rw [results_cell1 rfl]; simp [go_sem, s0, s1, s2]
      · exact ⟨by rw [HE.out]; rfl, HB9.out⟩
    · have d1 := decide_eq_false h1
      by_cases h2 : 64 < ways
      · have d2 := decide_eq_true h2
        have HE : Hid (wrT l ways = zeroT) := by
          show _ = _
          unfold wrT okW
          rw [decide_eq_false (by omega), Bool.and_false]; rfl
        go_enter Try.func19, Try.ntmps19
        go_wp2_with fail
        refine K17.mono ?_
        rintro e w2 ⟨rfl, hb2⟩
        have zz := HZ.out.1.keep hb2
        have HBX : Hid (Below w.heap.size w w2) := HZ.out.2.trans (hb2.mono HZ.out.2.size)
        clear K17 hW1 hb2
        obtain ⟨q0, q1, q2⟩ := zz.cells
        have f0 := zz.frozen 0
        have f1 := zz.frozen 1
        have f2 := zz.frozen 2
        obtain ⟨W9, hW9⟩ : ∃ z, ((w2.setCell ⟨w.heap.size, 0, none⟩ (.string ⟨#[]⟩)).setCell ⟨w.heap.size, 1, none⟩ (.string ⟨#[]⟩)).setCell ⟨w.heap.size, 2, none⟩ (.string ⟨#[]⟩) = z := ⟨_, rfl⟩
        have g9 := st3_grown w2 w.heap.size zeroT
        have i9 := st3_in zz zeroT
        rw [show st3 w2 w.heap.size zeroT = W9 from hW9] at g9 i9
        have hc9 : W9.cell? ⟨w.heap.size, 0, none⟩ = some (.string ⟨#[]⟩) ∧ W9.cell? ⟨w.heap.size, 1, none⟩ = some (.string ⟨#[]⟩) ∧ W9.cell? ⟨w.heap.size, 2, none⟩ = some (.string ⟨#[]⟩) := i9.cells
        obtain ⟨s0, s1, s2⟩ := hc9
        have HB9 : Hid (Below w.heap.size w W9) := HBX.out.grown g9 HBX.out.size (fun k e => by injection e with e; omega)
        clear zz g9 i9
        go_wp2
        refine bodyPost_ret (v := .agg #[.string ⟨#[]⟩, .string ⟨#[]⟩, .string ⟨#[]⟩]) ?_ rfl ?_
        · rw [results_cell1 rfl]; simp [go_sem, s0, s1, s2]
        · exact ⟨by rw [HE.out]; rfl, HB9.out⟩
      · have d2 := decide_eq_false h2
        obtain ⟨wn, rfl⟩ := Int.eq_ofNat_of_zero_le (show 0 ≤ ways by omega)
        have HE : Hid (wrT l (wn : Int) = ⟨symsL l, strsL l, hashB l wn⟩) := by
          show _ = _
          unfold wrT okW
          rw [HFT.out.2.2, decide_eq_true (by omega)]; rfl
        have K31 : Hid (∀ w', Below w.heap.size w w' → Calls Try.prog 31 #[.slice ao l.length cap, .int .i64 (wn : Int)] w' fun e w'' => e = .returned (.string ⟨(hashB l wn).toArray⟩) ∧ Below w'.heap.size w' w'') := fun w' h => hashes31 l _ wn w' (HS.out w' h) HFT.out.1 HFT.out.2.1 (by omega) (by omega)
        obtain ⟨HL, hHL⟩ : ∃ z, z = hashB l wn := ⟨_, rfl⟩
        rw [← hHL] at HE K31
        obtain ⟨HH, hHH⟩ : ∃ z : ByteArray, z = ⟨HL.toArray⟩ := ⟨_, rfl⟩
        rw [← hHH] at K31
        have HHE : Hid (HH = ⟨HL.toArray⟩) := hHH
        clear hHL hHH
        go_enter Try.func19, Try.ntmps19
        go_wp2_with fail
        refine K17.mono ?_
        rintro e w2 ⟨rfl, hb2⟩
        have H2 : Hid (T3 zeroT w.heap.size w2 ∧ Below w.heap.size w w2) := ⟨HZ.out.1.keep hb2, HZ.out.2.trans (hb2.mono HZ.out.2.size)⟩
        clear K17 hW1 hb2 HZ
        go_wp2
        refine wp_region_cut (R := Ext) [⟨19, fun v w => ∃ b, v = .slice (some ⟨b, 0, none⟩) 16 16 ∧ W.RowAt w b (zero16.map W.byteC), fun _ _ _ hb h => by obtain ⟨b, h1, h2⟩ := h; exact ⟨b, h1, rowAt_below h2 hb⟩⟩, ⟨20, fun v _ => v = .string ⟨zero16.toArray⟩, fun _ _ _ _ h => h⟩, ⟨21, fun v _ => v = .slice ao l.length cap, fun _ _ _ _ h => h⟩, ⟨22, fun v _ => v = .int .i64 (wn : Int), fun _ _ _ _ h => h⟩, ⟨23, fun v _ => v = .string HH, fun _ _ _ _ h => h⟩, ⟨24, fun v _ => v = .agg #[.string ⟨zero16.toArray⟩, .string ⟨#[0]⟩, .string HH], fun _ _ _ _ h => h⟩, ⟨5, fun v w' => ∃ b, v = .pointer (some ⟨b, 0, none⟩) ∧ T3 zeroT b w' ∧ w.heap.size < b, fun _ _ _ hb h => by obtain ⟨b, h1, h2, h3⟩ := h; exact ⟨b, h1, h2.keep hb, h3⟩⟩] _ 7 (by kernel_rfl) rfl (by kernel_rfl) (by decide) (by kernel_rfl) (Below.drew (Below.refl _ _)) (fun _ _ _ h1 h2 => below_tr h1 h2) (fun QQ => ⟨?_, ?_, ?_, ?_, ?_, ?_, ?_, trivial⟩) (fun f wy hR hf A hA => ?_)
        · intro A wx hR hout hdep K hK
          refine if_yes (by kernel_rfl) ?_
          simp [go_sem, mk16]
          exact hK.out _ _ ((Below.refl _ _).alloc (Nat.le_refl _) _) ⟨_, rfl, World.alloc_heap_new wx _⟩
        · intro A wx hR hout hdep K hK
          obtain ⟨b, h19, hrow⟩ : ∃ b, A.tmps[19]?.getD undef = .slice (some ⟨b, 0, none⟩) 16 16 ∧ W.RowAt wx b (zero16.map W.byteC) := hdep 19 (by kernel_rfl)
          have hcv : (convert 46 9 (.slice (some ⟨b, 0, none⟩) 16 16)).run Try.prog wx = .ok (.string ⟨zero16.toArray⟩) wx := W.conv_row wx b 16 zero16 hrow
          refine if_yes (by kernel_rfl) ?_
          simp [go_sem, h19, hcv]
          exact hK.out _ _ (Below.refl _ _) rfl
        · intro A wx hR hout hdep K hK
          have h0 : A.tmps[0]?.getD undef = .slice ao l.length cap := hout 0 (by kernel_rfl)
          refine if_yes (by kernel_rfl) ?_
          simp [go_sem, h0]
          exact hK.out _ _ (Below.refl _ _) rfl
        · intro A wx hR hout hdep K hK
          have h1 : A.tmps[1]?.getD undef = .int .i64 (wn : Int) := hout 1 (by kernel_rfl)
          refine if_yes (by kernel_rfl) ?_
          simp [go_sem, h1]
          exact hK.out _ _ (Below.refl _ _) rfl
        · intro A wx hR hout hdep K hK
          have h21 : A.tmps[21]?.getD undef = .slice ao l.length cap := hdep 21 (by kernel_rfl)
          have h22 : A.tmps[22]?.getD undef = .int .i64 (wn : Int) := hdep 22 (by kernel_rfl)
          refine if_yes (by kernel_rfl) ?_
          simp [go_sem, h21, h22]
          refine (K31.out wx (H2.out.2.trans (hR.mono H2.out.2.size))).mono ?_
          rintro e wG ⟨rfl, hbG⟩
          exact hK.out _ _ hbG rfl
        · intro A wx hR hout hdep K hK
          have h20 : A.tmps[20]?.getD undef = .string ⟨zero16.toArray⟩ := hdep 20 (by kernel_rfl)
          have h23 : A.tmps[23]?.getD undef = .string HH := hdep 23 (by kernel_rfl)
          refine if_yes (by kernel_rfl) ?_
          simp [go_sem, h20, h23]
          exact hK.out _ _ (Below.refl _ _) rfl
        · intro A wx hR hout hdep K hK
          refine if_yes (by kernel_rfl) ?_
          simp [go_sem, ]
          exact hK.out _ _ ((Below.refl _ _).alloc (Nat.le_refl _) _) ⟨_, rfl, T3.new zeroT wx, Nat.lt_of_lt_of_le H2.out.1.lt hR.size⟩
        obtain ⟨b, h5, hb5, hlt5⟩ : ∃ b, f 5 = .pointer (some ⟨b, 0, none⟩) ∧ T3 zeroT b wy ∧ w.heap.size < b := hf 5 (by kernel_rfl)
        have h24 : f 24 = .agg #[.string ⟨zero16.toArray⟩, .string ⟨#[0]⟩, .string HH] := hf 24 (by kernel_rfl)
        simp only [putSl, List.take_succ_cons, List.take_zero, Act.put, List.setIfInBounds_toArray, List.set_cons_zero, List.set_cons_succ, h5, h24] at hA
        subst hA
        have HBY : Hid (Below w.heap.size w wy) := H2.out.2.trans (hR.mono H2.out.2.size)
        have HZY : Hid (T3 zeroT w.heap.size wy) := H2.out.1.keep hR
        obtain ⟨q0, q1, q2⟩ := hb5.cells
        have f0 := hb5.frozen 0
        have f1 := hb5.frozen 1
        have f2 := hb5.frozen 2
        obtain ⟨W5, hW5⟩ : ∃ z, ((wy.setCell ⟨b, 0, none⟩ (.string ⟨zero16.toArray⟩)).setCell ⟨b, 1, none⟩ (.string ⟨#[0]⟩)).setCell ⟨b, 2, none⟩ (.string HH) = z := ⟨_, rfl⟩
        have H5 : Hid (T3 ⟨symsL (l.take 0), strsL (l.take 0), HL⟩ b W5 ∧ T3 zeroT w.heap.size W5 ∧ Below w.heap.size w W5 ∧ w.heap.size < b) := by
          have hg := st3_grown wy b ⟨zero16, [0], HL⟩
          have hi := st3_in hb5 ⟨zero16, [0], HL⟩
          have e : st3 wy b ⟨zero16, [0], HL⟩ = W5 := by rw [← hW5, HHE.out]; rfl
          rw [e] at hg hi
          have hs0 : symsL (l.take 0) = zero16 := by unfold symsL; simp [rowsG]
          refine ⟨?_, HZY.out.row hg (by intro e; injection e with e; omega), HBY.out.grown hg HBY.out.size (fun k e => by injection e with e; omega), hlt5⟩
          rw [hs0]
          exact hi
        clear hf h5 h24 hb5 hR HZY
        refine wpAny_ready (rs := [7]) (by kernel_rfl) (by decide) (AllReady.cons rfl ?_ AllReady.nil)
        intro K5 hK5
        refine if_yes (by kernel_rfl) ?_
        simp [go_sem, q0, q1, q2, f0, f1, f2, hW5]
        refine hK5 _ _ ?_
        refine wpAny_done (by kernel_rfl) ?_ _
        clear hW5 q0 q1 q2 f0 f1 f2
        skip
        go_wp2
        go_loopw [6] (fun x wr => ∃ k : Nat, x = .int .i64 (k : Int) ∧ k ≤ l.length ∧ T3 ⟨symsL (l.take k), strsL (l.take k), HL⟩ b wr ∧ T3 zeroT w.heap.size wr ∧ Below w.heap.size w wr) (fun x _ => l.length - (intOf x).toNat)
        case atStart => exact ⟨0, rfl, Nat.zero_le _, H5.out.1, H5.out.2.1, H5.out.2.2.1⟩
        case round =>
          obtain ⟨k, rfl, hk, hT, hz, hbr⟩ := hrel
          have hwb := H5.out.2.2.2
          by_cases hlt : k < l.length
          · obtain ⟨ao', cap', he, _, _, _, h4⟩ := HS.out w (Below.refl _ _)
            injection he with he1 he2 he3
            obtain ⟨bb, oo, hbo, h5⟩ := h4 k hlt
            rw [← he1] at hbo
            obtain ⟨g, hg⟩ : ∃ g, g = l[k] := ⟨_, rfl⟩
            rw [← hg] at h5
            have hmem : g ∈ l := by rw [hg]; exact List.getElem_mem hlt
            have hbd := HBD.out g hmem
            have hft := HFT.out.1 g hmem
            obtain ⟨O, hO⟩ : ∃ O, O = (strsL (l.take k)).length := ⟨_, rfl⟩
            have hOl : O ≤ 6401 := by rw [hO]; exact strs_le l HFT.out.1 HFT.out.2.1 k
            have htk : l.take (k + 1) = l.take k ++ [g] := by rw [List.take_succ_eq_append_getElem hlt, hg]
            have K24 : Hid (∀ w', Calls Try.prog 24 #[.agg #[.string ⟨g.name.toArray⟩, .int .u32 (g.value : Int), .int .u32 (g.size : Int), .int .i64 g.bind, .int .i64 g.part], .int .u32 (O : Int)] w' fun e w'' => e = .returned (.string ⟨(rowB g O).toArray⟩) ∧ Below w'.heap.size w' w'') := fun w' => rsymbol24 g O (by omega) hbd.v hbd.z hft.2.2.2.1 (by have := hft.2.2.2.2.1; omega) hft.2.2.2.2.2.1 (by have := hft.2.2.2.2.2.2; omega) w'
            obtain ⟨RB, hRB⟩ : ∃ z : ByteArray, z = ⟨(rowB g O).toArray⟩ := ⟨_, rfl⟩
            obtain ⟨NB, hNB⟩ : ∃ z : ByteArray, z = ⟨g.name.toArray⟩ := ⟨_, rfl⟩
            obtain ⟨SY, hSY⟩ : ∃ z : ByteArray, z = ⟨(symsL (l.take k)).toArray⟩ := ⟨_, rfl⟩
            obtain ⟨ST, hST⟩ : ∃ z : ByteArray, z = ⟨(strsL (l.take k)).toArray⟩ := ⟨_, rfl⟩
            have hSTz : ST.size = O := by rw [← bt_len, hST, bal, hO]
            have hSYz : SY.size ≤ 4000 := by rw [← bt_len, hSY, bal, syms_len, List.length_take]; have := HFT.out.2.1; omega
            have hRBz : RB.size = 16 := by rw [← bt_len, hRB, bal, rowB_len]
            have hNBz : NB.size ≤ 31 := by rw [← bt_len, hNB, bal]; exact hft.2.1
            have hcs1 : ¬ 9223372036854775807 < SY.size + RB.size := by omega
            have hcs2 : ¬ 9223372036854775807 < ST.size + NB.size := by omega
            have hcs3 : ¬ 9223372036854775807 < (ST ++ NB).size + (⟨#[0]⟩ : ByteArray).size := by
              rw [ByteArray.size_append, show (⟨#[0]⟩ : ByteArray).size = 1 from rfl]
              omega
            have hcs3' : ¬ 9223372036854775807 < ST.size + NB.size + 1 := by omega
            have HC : Hid ((SY ++ RB = ⟨(symsL (l.take (k + 1))).toArray⟩) ∧ (ST ++ NB ++ ⟨#[0]⟩ = ⟨(strsL (l.take (k + 1))).toArray⟩)) := by
              refine ⟨?_, ?_⟩
              · rw [hSY, hRB, ba_app, htk, syms_snoc, hO]
              · rw [hST, hNB, show (⟨#[0]⟩ : ByteArray) = ⟨([0] : L8).toArray⟩ from rfl, ba_app (strsL (l.take k)) g.name, ba_app (strsL (l.take k) ++ g.name) [0], htk, strs_snoc, List.append_assoc]
                rfl
            have eO : (O : Int) % 4294967296 = (O : Int) := by omega
            have eO2 : IntKind.u32.wrap (O : Int) = (O : Int) := by rw [IntKind.wrap_u32]; exact eO
            have hki : (k : Int) < (l.length : Int) := by omega
            have HWR : Hid (T3 ⟨symsL (l.take k), strsL (l.take k), HL⟩ b wr ∧ T3 zeroT w.heap.size wr ∧ Below w.heap.size w wr ∧ At5 w bb (oo + k * 5) g) := ⟨hT, hz, hbr, h5⟩
            have q0 : wr.cell? ⟨b, 0, none⟩ = some (.string SY) := by rw [hSY]; exact hT.cells.1
            have q1 : wr.cell? ⟨b, 1, none⟩ = some (.string ST) := by rw [hST]; exact hT.cells.2.1
            obtain ⟨r0, r1, r2, r3, r4⟩ := h5.keep hbr
            rw [← hRB, ← hNB] at K24
            rw [← hNB] at r0
            have HNE : Hid (NB = ⟨g.name.toArray⟩ ∧ ST = ⟨(strsL (l.take k)).toArray⟩) := ⟨hNB, hST⟩
            subst hbo
            clear he1 he2 he3 h4 hg hmem hbd hft hO hOl htk hRB hNB hSY hST hT hz hbr h5 hRBz hNBz hSYz
            go_wp2
            refine wp_region_cut (R := Ext) [⟨31, fun v _ => v = .pointer (some ⟨b, 0, none⟩), fun _ _ _ _ h => h⟩, ⟨32, fun v _ => v = .string SY, fun _ _ _ _ h => h⟩, ⟨33, fun v _ => v = .slice (some ⟨bb, oo, none⟩) l.length cap, fun _ _ _ _ h => h⟩, ⟨34, fun v _ => v = .int .i64 (k : Int), fun _ _ _ _ h => h⟩, ⟨35, fun v _ => v = .pointer (some ⟨bb, oo + k * 5, none⟩), fun _ _ _ _ h => h⟩, ⟨36, fun v _ => v = .agg #[.string NB, .int .u32 (g.value : Int), .int .u32 (g.size : Int), .int .i64 g.bind, .int .i64 g.part], fun _ _ _ _ h => h⟩, ⟨37, fun v _ => v = .pointer (some ⟨b, 1, none⟩), fun _ _ _ _ h => h⟩, ⟨38, fun v _ => v = .string ST, fun _ _ _ _ h => h⟩, ⟨39, fun v _ => v = .int .i64 (O : Int), fun _ _ _ _ h => h⟩, ⟨40, fun v _ => v = .int .u32 (O : Int), fun _ _ _ _ h => h⟩, ⟨41, fun v _ => v = .string RB, fun _ _ _ _ h => h⟩, ⟨42, fun v _ => v = .string (SY ++ RB), fun _ _ _ _ h => h⟩, ⟨43, fun v _ => v = .pointer (some ⟨b, 0, none⟩), fun _ _ _ _ h => h⟩] _ 13 (by kernel_rfl) rfl (by kernel_rfl) (by decide) (by kernel_rfl) (Below.drew (Below.refl _ _)) (fun _ _ _ h1 h2 => below_tr h1 h2) (fun QQ => ⟨?_, ?_, ?_, ?_, ?_, ?_, ?_, ?_, ?_, ?_, ?_, ?_, ?_, trivial⟩) (fun f wy hR hf A hA => ?_)
            · intro A wx hR hout hdep K hK
              have h5 : A.tmps[5]?.getD undef = .pointer (some ⟨b, 0, none⟩) := hout 5 (by kernel_rfl)
              refine if_yes (by kernel_rfl) ?_
              simp [go_sem, h5]
              exact hK.out _ _ (Below.refl _ _) rfl
            · intro A wx hR hout hdep K hK
              have h31 : A.tmps[31]?.getD undef = .pointer (some ⟨b, 0, none⟩) := hdep 31 (by kernel_rfl)
              refine if_yes (by kernel_rfl) ?_
              have q0 := keep_cell hR q0
              simp [go_sem, h31, q0]
              exact hK.out _ _ (Below.refl _ _) rfl
            · intro A wx hR hout hdep K hK
              have h0 : A.tmps[0]?.getD undef = .slice (some ⟨bb, oo, none⟩) l.length cap := hout 0 (by kernel_rfl)
              refine if_yes (by kernel_rfl) ?_
              simp [go_sem, h0]
              exact hK.out _ _ (Below.refl _ _) rfl
            · intro A wx hR hout hdep K hK
              have h6 : A.tmps[6]?.getD undef = .int .i64 (k : Int) := hout 6 (by kernel_rfl)
              refine if_yes (by kernel_rfl) ?_
              simp [go_sem, h6]
              exact hK.out _ _ (Below.refl _ _) rfl
            · intro A wx hR hout hdep K hK
              have h33 : A.tmps[33]?.getD undef = .slice (some ⟨bb, oo, none⟩) l.length cap := hdep 33 (by kernel_rfl)
              have h34 : A.tmps[34]?.getD undef = .int .i64 (k : Int) := hdep 34 (by kernel_rfl)
              refine if_yes (by kernel_rfl) ?_
              simp [go_sem, h33, h34, hki, hlt]
              exact hK.out _ _ (Below.refl _ _) rfl
            · intro A wx hR hout hdep K hK
              have h35 : A.tmps[35]?.getD undef = .pointer (some ⟨bb, oo + k * 5, none⟩) := hdep 35 (by kernel_rfl)
              refine if_yes (by kernel_rfl) ?_
              have r0 := keep_cell hR r0
              have r1 := keep_cell hR r1
              have r2 := keep_cell hR r2
              have r3 := keep_cell hR r3
              have r4 := keep_cell hR r4
              simp [go_sem, h35, r0, r1, r2, r3, r4]
              exact hK.out _ _ (Below.refl _ _) rfl
            · intro A wx hR hout hdep K hK
              have h5 : A.tmps[5]?.getD undef = .pointer (some ⟨b, 0, none⟩) := hout 5 (by kernel_rfl)
              refine if_yes (by kernel_rfl) ?_
              simp [go_sem, h5]
              exact hK.out _ _ (Below.refl _ _) rfl
            · intro A wx hR hout hdep K hK
              have h37 : A.tmps[37]?.getD undef = .pointer (some ⟨b, 1, none⟩) := hdep 37 (by kernel_rfl)
              refine if_yes (by kernel_rfl) ?_
              have q1 := keep_cell hR q1
              simp [go_sem, h37, q1]
              exact hK.out _ _ (Below.refl _ _) rfl
            · intro A wx hR hout hdep K hK
              have h38 : A.tmps[38]?.getD undef = .string ST := hdep 38 (by kernel_rfl)
              refine if_yes (by kernel_rfl) ?_
              simp [go_sem, h38, hSTz]
              exact hK.out _ _ (Below.refl _ _) rfl
            · intro A wx hR hout hdep K hK
              have h39 : A.tmps[39]?.getD undef = .int .i64 (O : Int) := hdep 39 (by kernel_rfl)
              refine if_yes (by kernel_rfl) ?_
              simp [go_sem, h39, eO, eO2]
              exact hK.out _ _ (Below.refl _ _) rfl
            · intro A wx hR hout hdep K hK
              have h36 : A.tmps[36]?.getD undef = .agg #[.string NB, .int .u32 (g.value : Int), .int .u32 (g.size : Int), .int .i64 g.bind, .int .i64 g.part] := hdep 36 (by kernel_rfl)
              have h40 : A.tmps[40]?.getD undef = .int .u32 (O : Int) := hdep 40 (by kernel_rfl)
              refine if_yes (by kernel_rfl) ?_
              simp [go_sem, h36, h40]
              refine (K24.out wx).mono ?_
              rintro e wG ⟨rfl, hbG⟩
              exact hK.out _ _ hbG rfl
            · intro A wx hR hout hdep K hK
              have h32 : A.tmps[32]?.getD undef = .string SY := hdep 32 (by kernel_rfl)
              have h41 : A.tmps[41]?.getD undef = .string RB := hdep 41 (by kernel_rfl)
              refine if_yes (by kernel_rfl) ?_
              simp [go_sem, h32, h41, hcs1]
              exact hK.out _ _ (Below.refl _ _) rfl
            · intro A wx hR hout hdep K hK
              have h5 : A.tmps[5]?.getD undef = .pointer (some ⟨b, 0, none⟩) := hout 5 (by kernel_rfl)
              refine if_yes (by kernel_rfl) ?_
              simp [go_sem, h5]
              exact hK.out _ _ (Below.refl _ _) rfl
            have h43 : f 43 = .pointer (some ⟨b, 0, none⟩) := hf 43 (by kernel_rfl)
            have h42 : f 42 = .string (SY ++ RB) := hf 42 (by kernel_rfl)
            simp only [putSl, List.take_succ_cons, List.take_zero, Act.put, List.setIfInBounds_toArray, List.set_cons_zero, List.set_cons_succ, h43, h42] at hA
            subst hA
            have ty := HWR.out.1.keep hR
            have f0 := ty.frozen 0
            have q0 := keep_cell hR q0
            have q1 := keep_cell hR q1
            obtain ⟨W6, hW6⟩ : ∃ z, wy.setCell ⟨b, 0, none⟩ (.string (SY ++ RB)) = z := ⟨_, rfl⟩
            have H6 : Hid (T3 ⟨symsL (l.take (k + 1)), strsL (l.take k), HL⟩ b W6 ∧ T3 zeroT w.heap.size W6 ∧ Below w.heap.size w W6) := by
              have hg : wy.grownBy W6 (some b) := by rw [← hW6]; exact grown_setk _ _ _ _
              have hy : Below w.heap.size w wy := HWR.out.2.2.1.trans (hR.mono HWR.out.2.2.1.size)
              refine ⟨?_, (HWR.out.2.1.keep hR).row hg (by intro e; injection e with e; omega), hy.grown hg hy.size (fun k e => by injection e with e; omega)⟩
              rw [← hW6, HC.out.1]
              exact ty.set0 _
            clear hf h43 h42 hR ty r0 r1 r2 r3 r4 q1
            refine wpAny_ready (rs := [13]) (by kernel_rfl) (by decide) (AllReady.cons rfl ?_ AllReady.nil)
            intro K5 hK5
            refine if_yes (by kernel_rfl) ?_
            simp [go_sem, q0, f0, hW6]
            refine hK5 _ _ ?_
            refine wpAny_done (by kernel_rfl) ?_ _
            clear hK5 K5 q0 f0 hW6
            have q1 : W6.cell? ⟨b, 1, none⟩ = some (.string ST) := by rw [HNE.out.2]; exact H6.out.1.cells.2.1
            have r0 : W6.cell? ⟨bb, oo + k * 5, none⟩ = some (.string NB) := by rw [HNE.out.1]; exact (HWR.out.2.2.2.keep H6.out.2.2).1
            clear K24
            go_wp2
            refine wp_region_cut (R := Ext) [⟨44, fun v _ => v = .pointer (some ⟨b, 1, none⟩), fun _ _ _ _ h => h⟩, ⟨45, fun v _ => v = .string ST, fun _ _ _ _ h => h⟩, ⟨46, fun v _ => v = .slice (some ⟨bb, oo, none⟩) l.length cap, fun _ _ _ _ h => h⟩, ⟨47, fun v _ => v = .int .i64 (k : Int), fun _ _ _ _ h => h⟩, ⟨48, fun v _ => v = .pointer (some ⟨bb, oo + k * 5, none⟩), fun _ _ _ _ h => h⟩, ⟨49, fun v _ => v = .pointer (some ⟨bb, oo + k * 5, none⟩), fun _ _ _ _ h => h⟩, ⟨50, fun v _ => v = .string NB, fun _ _ _ _ h => h⟩, ⟨51, fun v _ => v = .string (ST ++ NB), fun _ _ _ _ h => h⟩, ⟨52, fun v _ => v = .string (ST ++ NB ++ ⟨#[0]⟩), fun _ _ _ _ h => h⟩, ⟨53, fun v _ => v = .pointer (some ⟨b, 1, none⟩), fun _ _ _ _ h => h⟩] _ 10 (by kernel_rfl) rfl (by kernel_rfl) (by decide) (by kernel_rfl) (Below.drew (Below.refl _ _)) (fun _ _ _ h1 h2 => below_tr h1 h2) (fun QQ => ⟨?_, ?_, ?_, ?_, ?_, ?_, ?_, ?_, ?_, ?_, trivial⟩) (fun f wy hR hf A hA => ?_)
            · intro A wx hR hout hdep K hK
              have h5 : A.tmps[5]?.getD undef = .pointer (some ⟨b, 0, none⟩) := hout 5 (by kernel_rfl)
              refine if_yes (by kernel_rfl) ?_
              simp [go_sem, h5]
              exact hK.out _ _ (Below.refl _ _) rfl
            · intro A wx hR hout hdep K hK
              have h44 : A.tmps[44]?.getD undef = .pointer (some ⟨b, 1, none⟩) := hdep 44 (by kernel_rfl)
              refine if_yes (by kernel_rfl) ?_
              have q1 := keep_cell hR q1
              simp [go_sem, h44, q1]
              exact hK.out _ _ (Below.refl _ _) rfl
            · intro A wx hR hout hdep K hK
              have h0 : A.tmps[0]?.getD undef = .slice (some ⟨bb, oo, none⟩) l.length cap := hout 0 (by kernel_rfl)
              refine if_yes (by kernel_rfl) ?_
              simp [go_sem, h0]
              exact hK.out _ _ (Below.refl _ _) rfl
            · intro A wx hR hout hdep K hK
              have h6 : A.tmps[6]?.getD undef = .int .i64 (k : Int) := hout 6 (by kernel_rfl)
              refine if_yes (by kernel_rfl) ?_
              simp [go_sem, h6]
              exact hK.out _ _ (Below.refl _ _) rfl
            · intro A wx hR hout hdep K hK
              have h46 : A.tmps[46]?.getD undef = .slice (some ⟨bb, oo, none⟩) l.length cap := hdep 46 (by kernel_rfl)
              have h47 : A.tmps[47]?.getD undef = .int .i64 (k : Int) := hdep 47 (by kernel_rfl)
              refine if_yes (by kernel_rfl) ?_
              simp [go_sem, h46, h47, hki, hlt]
              exact hK.out _ _ (Below.refl _ _) rfl
            · intro A wx hR hout hdep K hK
              have h48 : A.tmps[48]?.getD undef = .pointer (some ⟨bb, oo + k * 5, none⟩) := hdep 48 (by kernel_rfl)
              refine if_yes (by kernel_rfl) ?_
              simp [go_sem, h48]
              exact hK.out _ _ (Below.refl _ _) rfl
            · intro A wx hR hout hdep K hK
              have h49 : A.tmps[49]?.getD undef = .pointer (some ⟨bb, oo + k * 5, none⟩) := hdep 49 (by kernel_rfl)
              refine if_yes (by kernel_rfl) ?_
              have r0 := keep_cell hR r0
              simp [go_sem, h49, r0]
              exact hK.out _ _ (Below.refl _ _) rfl
            · intro A wx hR hout hdep K hK
              have h45 : A.tmps[45]?.getD undef = .string ST := hdep 45 (by kernel_rfl)
              have h50 : A.tmps[50]?.getD undef = .string NB := hdep 50 (by kernel_rfl)
              refine if_yes (by kernel_rfl) ?_
              simp [go_sem, h45, h50, hcs2]
              exact hK.out _ _ (Below.refl _ _) rfl
            · intro A wx hR hout hdep K hK
              have h51 : A.tmps[51]?.getD undef = .string (ST ++ NB) := hdep 51 (by kernel_rfl)
              refine if_yes (by kernel_rfl) ?_
              simp [go_sem, h51, hcs3, hcs3']
              exact hK.out _ _ (Below.refl _ _) rfl
            · intro A wx hR hout hdep K hK
              have h5 : A.tmps[5]?.getD undef = .pointer (some ⟨b, 0, none⟩) := hout 5 (by kernel_rfl)
              refine if_yes (by kernel_rfl) ?_
              simp [go_sem, h5]
              exact hK.out _ _ (Below.refl _ _) rfl
            have h53 : f 53 = .pointer (some ⟨b, 1, none⟩) := hf 53 (by kernel_rfl)
            have h52 : f 52 = .string (ST ++ NB ++ ⟨#[0]⟩) := hf 52 (by kernel_rfl)
            simp only [putSl, List.take_succ_cons, List.take_zero, Act.put, List.setIfInBounds_toArray, List.set_cons_zero, List.set_cons_succ, h53, h52] at hA
            subst hA
            have ty := H6.out.1.keep hR
            have f1 := ty.frozen 1
            have q1 := keep_cell hR q1
            obtain ⟨W7, hW7⟩ : ∃ z, wy.setCell ⟨b, 1, none⟩ (.string (ST ++ NB ++ ⟨#[0]⟩)) = z := ⟨_, rfl⟩
            have H7 : Hid (T3 ⟨symsL (l.take (k + 1)), strsL (l.take (k + 1)), HL⟩ b W7 ∧ T3 zeroT w.heap.size W7 ∧ Below w.heap.size w W7) := by
              have hg : wy.grownBy W7 (some b) := by rw [← hW7]; exact grown_setk _ _ _ _
              have hy : Below w.heap.size w wy := H6.out.2.2.trans (hR.mono H6.out.2.2.size)
              refine ⟨?_, (H6.out.2.1.keep hR).row hg (by intro e; injection e with e; omega), hy.grown hg hy.size (fun k e => by injection e with e; omega)⟩
              rw [← hW7, HC.out.2]
              exact ty.set1 _
            clear hf h53 h52 hR ty r0
            refine wpAny_ready (rs := [10]) (by kernel_rfl) (by decide) (AllReady.cons rfl ?_ AllReady.nil)
            intro K5 hK5
            refine if_yes (by kernel_rfl) ?_
            simp [go_sem, q1, f1, hW7]
            refine hK5 _ _ ?_
            refine wpAny_done (by kernel_rfl) ?_ _
            clear hK5 K5 q1 f1 hW7 hcs1 hcs2 hcs3 hcs3'
            go_wp2
            go_roundw
            case rel => exact ⟨k + 1, by go_num, by omega, H7.out.1, H7.out.2.1, H7.out.2.2⟩
            case measure => first | (simp [intOf]; done) | (simp [intOf]; omega)
          · have hkl : k = l.length := by omega
            have hki : ¬ (k : Int) < (l.length : Int) := by omega
            rw [hkl, List.take_length] at hT
            obtain ⟨TT, hTT⟩ : ∃ t : Tb, t = ⟨symsL l, strsL l, HL⟩ := ⟨_, rfl⟩
            rw [← hTT] at HE hT
            obtain ⟨p0, p1, p2⟩ := hT.cells
            have HBX : Hid (Below w.heap.size w wr) := hbr
            obtain ⟨q0, q1, q2⟩ := hz.cells
            have f0 := hz.frozen 0
            have f1 := hz.frozen 1
            have f2 := hz.frozen 2
            obtain ⟨W9, hW9⟩ : ∃ z, ((wr.setCell ⟨w.heap.size, 0, none⟩ (.string ⟨TT.syms.toArray⟩)).setCell ⟨w.heap.size, 1, none⟩ (.string ⟨TT.strs.toArray⟩)).setCell ⟨w.heap.size, 2, none⟩ (.string ⟨TT.hash.toArray⟩) = z := ⟨_, rfl⟩
            have g9 := st3_grown wr w.heap.size TT
            have i9 := st3_in hz TT
            rw [show st3 wr w.heap.size TT = W9 from hW9] at g9 i9
            have hc9 : W9.cell? ⟨w.heap.size, 0, none⟩ = some (.string ⟨TT.syms.toArray⟩) ∧ W9.cell? ⟨w.heap.size, 1, none⟩ = some (.string ⟨TT.strs.toArray⟩) ∧ W9.cell? ⟨w.heap.size, 2, none⟩ = some (.string ⟨TT.hash.toArray⟩) := i9.cells
            obtain ⟨s0, s1, s2⟩ := hc9
            have HB9 : Hid (Below w.heap.size w W9) := HBX.out.grown g9 HBX.out.size (fun k e => by injection e with e; omega)
            clear hz g9 i9 hT hTT hbr
            go_wp2
            refine bodyPost_ret (v := .agg #[.string ⟨TT.syms.toArray⟩, .string ⟨TT.strs.toArray⟩, .string ⟨TT.hash.toArray⟩]) ?_ rfl ?_
            · rw [results_cell1 rfl]; simp [go_sem, s0, s1, s2]
            · exact ⟨by rw [HE.out]; rfl, HB9.out⟩
end Go.Proofs.Ytmkfgoacbehhcaa
