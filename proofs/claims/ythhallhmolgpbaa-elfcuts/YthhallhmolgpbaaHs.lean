/- What is proved here: a header is taken off a file, or it throws its first error; a segment that lies behind the file's end. -/
import Derived.Test.YthhallhmolgpbaaHr
namespace Go.Proofs.Ythhallhmolgpbaa
open Go.RowKit
set_option linter.unusedVariables false
set_option linter.unusedSimpArgs false
set_option maxRecDepth 100000
theorem hdr_short (R : Nat) (l : L8) (hl : l.length ≤ 1000000) (w : World) (hr : Rd R w l) (h52 : l.length < 52) : Calls Try.prog 20 #[.pointer (some ⟨R, 0, none⟩)] w fun e w' => e = .panicked (thrown 101) ∧ w.grownBy w' (some R) := by
  obtain ⟨W1, hW1⟩ : ∃ W1, w.alloc (.cells #[.bool false, .int .u32 0, .slice none 0 0] 26) = W1 := ⟨_, rfl⟩
  have hz1 : W1.heap.size = w.heap.size + 1 := by rw [← hW1]; simp
  have hb1 : Below w.heap.size w W1 := by rw [← hW1]; exact (Below.refl _ _).alloc (Nat.le_refl _) _
  have hRlt : R < w.heap.size := World.block_lt_of_cell? _ _ hr.cell
  have KT := take35_no R l 52 h52 hl W1 (hr.kept (grown_of (row := none) hb1) (by simp))
  have HG1 : Hid (w.grownBy W1 (some R)) := grown_of hb1
  clear hb1 hr hz1 hRlt
  go_enter Try.func20, Try.ntmps20
  go_wp2_with fail
  refine KT.mono ?_
  rintro e w2 ⟨rfl, rfl⟩
  exact ⟨rfl, rfl, HG1.out⟩
set_option maxHeartbeats 1000000 in
theorem hdr_magic (R : Nat) (l : L8) (hl : l.length ≤ 1000000) (w : World) (hr : Rd R w l) (h52 : 52 ≤ l.length) (hm : (l.take 16 == magicL) = false) : Calls Try.prog 20 #[.pointer (some ⟨R, 0, none⟩)] w fun e w' => e = .panicked (thrown 102) ∧ w.grownBy w' (some R) := by
  obtain ⟨W1, hW1⟩ : ∃ W1, w.alloc (.cells #[.bool false, .int .u32 0, .slice none 0 0] 26) = W1 := ⟨_, rfl⟩
  have hz1 : W1.heap.size = w.heap.size + 1 := by rw [← hW1]; simp
  have hb1 : Below w.heap.size w W1 := by rw [← hW1]; exact (Below.refl _ _).alloc (Nat.le_refl _) _
  have hRlt : R < w.heap.size := World.block_lt_of_cell? _ _ hr.cell
  have KT := take35_ok R l 52 h52 hl W1 (hr.kept (grown_of (row := none) hb1) (by simp))
  have HG1 : Hid (w.grownBy W1 (some R) ∧ W1.heap.size = w.heap.size + 1) := ⟨grown_of hb1, hz1⟩
  have HRL : Hid (R < w.heap.size) := hRlt
  obtain ⟨tp1, tp2, tp3, tp4, tp5⟩ := take_parts l
  have HK36 : Hid (∀ n w', Rd n w' (l.take 52) → Calls Try.prog 36 #[.pointer (some ⟨n, 0, none⟩)] w' fun e w'' => e = .panicked (thrown 102) ∧ w'.grownBy w'' (some n)) := fun n w' h => head36_magic n (l.take 52) (by simp; omega) w' h (by rw [tp5]; exact hm)
  clear hb1 hr hz1 hRlt tp1 tp2 tp3 tp4 tp5 hm
  go_enter Try.func20, Try.ntmps20
  go_wp2_with fail
  refine KT.mono ?_
  rintro e w2 ⟨rfl, hr2, hg2⟩
  clear KT hW1
  have HG2 : Hid (w.grownBy w2 (some R) ∧ w.heap.size < w2.heap.size ∧ Rd R w2 (l.drop 52)) := ⟨gb_trans HG1.out.1 hg2, by have := HG1.out.2; have := hg2.size; omega, hr2⟩
  clear hg2 hr2 HG1
  obtain ⟨X, hX⟩ : ∃ X : ByteArray, X = ⟨(l.take 52).toArray⟩ := ⟨_, rfl⟩
  rw [← hX]
  obtain ⟨W3, hW3⟩ : ∃ W3, w2.alloc (.cells #[.string X] 48) = W3 := ⟨_, rfl⟩
  have hb3 : Below w2.heap.size w2 W3 := by rw [← hW3]; exact (Below.refl _ _).alloc (Nat.le_refl _) _
  have hr3 : Rd w2.heap.size W3 (l.take 52) := by rw [← hW3, hX]; exact Boxed.new w2 48 _
  have K36 := HK36.out w2.heap.size W3 hr3
  clear hX
  go_wp2_with fail
  refine K36.mono ?_
  rintro e w4 ⟨rfl, hg4⟩
  exact ⟨rfl, rfl, gb_out (gb_trans HG2.out.1 (grown_of hb3)) hg4 (by have := HG2.out.2.1; omega)⟩
set_option maxHeartbeats 1000000 in
theorem hdr_form (R : Nat) (l : L8) (hl : l.length ≤ 1000000) (w : World) (hr : Rd R w l) (h52 : 52 ≤ l.length) (hm : (l.take 16 == magicL) = true) (hfo : formOk l = false) : Calls Try.prog 20 #[.pointer (some ⟨R, 0, none⟩)] w fun e w' => e = .panicked (thrown 103) ∧ w.grownBy w' (some R) := by
  obtain ⟨W1, hW1⟩ : ∃ W1, w.alloc (.cells #[.bool false, .int .u32 0, .slice none 0 0] 26) = W1 := ⟨_, rfl⟩
  have hz1 : W1.heap.size = w.heap.size + 1 := by rw [← hW1]; simp
  have hb1 : Below w.heap.size w W1 := by rw [← hW1]; exact (Below.refl _ _).alloc (Nat.le_refl _) _
  have hRlt : R < w.heap.size := World.block_lt_of_cell? _ _ hr.cell
  have KT := take35_ok R l 52 h52 hl W1 (hr.kept (grown_of (row := none) hb1) (by simp))
  have HG1 : Hid (w.grownBy W1 (some R) ∧ W1.heap.size = w.heap.size + 1) := ⟨grown_of hb1, hz1⟩
  have HRL : Hid (R < w.heap.size) := hRlt
  obtain ⟨tp1, tp2, tp3, tp4, tp5⟩ := take_parts l
  have HK36 : Hid (∀ n w', Rd n w' (l.take 52) → Calls Try.prog 36 #[.pointer (some ⟨n, 0, none⟩)] w' fun e w'' => e = .panicked (thrown 103) ∧ w'.grownBy w'' (some n)) := fun n w' h => head36_form n (l.take 52) (by simp; omega) w' h (by rw [tp5]; exact hm) (by rw [tp4]; exact hfo)
  clear hb1 hr hz1 hRlt tp1 tp2 tp3 tp4 tp5 hm
  go_enter Try.func20, Try.ntmps20
  go_wp2_with fail
  refine KT.mono ?_
  rintro e w2 ⟨rfl, hr2, hg2⟩
  clear KT hW1
  have HG2 : Hid (w.grownBy w2 (some R) ∧ w.heap.size < w2.heap.size ∧ Rd R w2 (l.drop 52)) := ⟨gb_trans HG1.out.1 hg2, by have := HG1.out.2; have := hg2.size; omega, hr2⟩
  clear hg2 hr2 HG1
  obtain ⟨X, hX⟩ : ∃ X : ByteArray, X = ⟨(l.take 52).toArray⟩ := ⟨_, rfl⟩
  rw [← hX]
  obtain ⟨W3, hW3⟩ : ∃ W3, w2.alloc (.cells #[.string X] 48) = W3 := ⟨_, rfl⟩
  have hb3 : Below w2.heap.size w2 W3 := by rw [← hW3]; exact (Below.refl _ _).alloc (Nat.le_refl _) _
  have hr3 : Rd w2.heap.size W3 (l.take 52) := by rw [← hW3, hX]; exact Boxed.new w2 48 _
  have K36 := HK36.out w2.heap.size W3 hr3
  clear hX
  go_wp2_with fail
  refine K36.mono ?_
  rintro e w4 ⟨rfl, hg4⟩
  exact ⟨rfl, rfl, gb_out (gb_trans HG2.out.1 (grown_of hb3)) hg4 (by have := HG2.out.2.1; omega)⟩
set_option maxHeartbeats 1000000 in
theorem hdr_cut (R : Nat) (l : L8) (hl : l.length ≤ 1000000) (w : World) (hr : Rd R w l) (h52 : 52 ≤ l.length) (hm : (l.take 16 == magicL) = true) (hfo : formOk l = true) (hc : l.length < 52 + 32 * hf l 44) : Calls Try.prog 20 #[.pointer (some ⟨R, 0, none⟩)] w fun e w' => e = .panicked (thrown 101) ∧ w.grownBy w' (some R) := by
  obtain ⟨W1, hW1⟩ : ∃ W1, w.alloc (.cells #[.bool false, .int .u32 0, .slice none 0 0] 26) = W1 := ⟨_, rfl⟩
  have hz1 : W1.heap.size = w.heap.size + 1 := by rw [← hW1]; simp
  have hb1 : Below w.heap.size w W1 := by rw [← hW1]; exact (Below.refl _ _).alloc (Nat.le_refl _) _
  have hRlt : R < w.heap.size := World.block_lt_of_cell? _ _ hr.cell
  have KT := take35_ok R l 52 h52 hl W1 (hr.kept (grown_of (row := none) hb1) (by simp))
  have HG1 : Hid (w.grownBy W1 (some R) ∧ W1.heap.size = w.heap.size + 1) := ⟨grown_of hb1, hz1⟩
  have HRL : Hid (R < w.heap.size) := hRlt
  obtain ⟨tp1, tp2, tp3, tp4, tp5⟩ := take_parts l
  have HK36 : Hid (∀ n w', Rd n w' (l.take 52) → Calls Try.prog 36 #[.pointer (some ⟨n, 0, none⟩)] w' fun e w'' => e = .returned (.tuple #[.agg #[.bool (hf l 16 == 3), .int .u32 (wd l 24 : Int), .slice none 0 0], .int .i64 (hf l 44 : Int)]) ∧ w'.grownBy w'' (some n)) := fun n w' h => by
    have := head36_ok n (l.take 52) (by simp; omega) w' h (by rw [tp5]; exact hm) (by rw [tp4]; exact hfo)
    rw [tp1, tp2, tp3] at this
    exact this
  have hcn : hf l 44 ≤ 16 := (form_parts hfo).2.2.2.1
  obtain ⟨CN, hCN⟩ : ∃ C, C = hf l 44 := ⟨_, rfl⟩
  obtain ⟨SH, hSH⟩ : ∃ S, S = (hf l 16 == 3) := ⟨_, rfl⟩
  obtain ⟨EN, hEN⟩ : ∃ S, S = wd l 24 := ⟨_, rfl⟩
  rw [← hCN] at hcn hc
  rw [← hCN, ← hSH, ← hEN] at HK36
  have hmul : (CN : Int) * 32 = ((CN * 32 : Nat) : Int) := by omega
  have hmw : wrap64 ((CN : Int) * 32) = (CN : Int) * 32 := by unfold wrap64; omega
  have KT2 : Hid (∀ w', Rd R w' (l.drop 52) → Calls Try.prog 35 #[.pointer (some ⟨R, 0, none⟩), .int .i64 ((CN : Int) * 32)] w' fun e w'' => e = .panicked (thrown 101) ∧ w'' = w') := fun w' h => by
    have := take35_no R (l.drop 52) (CN * 32) (by simp; omega) (by simp; omega) w' h
    rw [hmul]
    exact this
  clear hfo h52 hl hCN hSH hEN hmul hz1 hb1 hr hRlt tp1 tp2 tp3 tp4 tp5 hm hc
  go_enter Try.func20, Try.ntmps20
  go_wp2_with fail
  refine KT.mono ?_
  rintro e w2 ⟨rfl, hr2, hg2⟩
  clear KT hW1
  have HG2 : Hid (w.grownBy w2 (some R) ∧ w.heap.size < w2.heap.size ∧ Rd R w2 (l.drop 52)) := ⟨gb_trans HG1.out.1 hg2, by have := HG1.out.2; have := hg2.size; omega, hr2⟩
  clear hg2 hr2 HG1
  obtain ⟨X, hX⟩ : ∃ X : ByteArray, X = ⟨(l.take 52).toArray⟩ := ⟨_, rfl⟩
  rw [← hX]
  obtain ⟨W3, hW3⟩ : ∃ W3, w2.alloc (.cells #[.string X] 48) = W3 := ⟨_, rfl⟩
  have hb3 : Below w2.heap.size w2 W3 := by rw [← hW3]; exact (Below.refl _ _).alloc (Nat.le_refl _) _
  have hr3 : Rd w2.heap.size W3 (l.take 52) := by rw [← hW3, hX]; exact Boxed.new w2 48 _
  have K36 := HK36.out w2.heap.size W3 hr3
  clear hX
  go_wp2_with fail
  refine K36.mono ?_
  rintro e w4 ⟨rfl, hg4⟩
  clear K36 hW3
  have HG4 : Hid (w.grownBy w4 (some R) ∧ Rd R w4 (l.drop 52) ∧ w.heap.size < w4.heap.size) := by
    have h2 := HG2.out
    have hlt := HRL.out
    refine ⟨gb_out (gb_trans h2.1 (grown_of hb3)) hg4 (by omega), ?_, ?_⟩
    · exact (h2.2.2.kept (grown_of (row := none) hb3) (by simp)).kept hg4 (by intro e; injection e with e; omega)
    · have := hb3.size
      have := hg4.size
      omega
  clear hb3 hr3 hg4 HG2
  obtain ⟨V5, hV5⟩ : ∃ W5, w4.alloc (.cells #[.bool false, .int .u32 0, .slice none 0 0] 26) = W5 := ⟨_, rfl⟩
  have ev : Z3 w4.heap.size V5 := by rw [← hV5]; exact World.alloc_heap_new w4 _
  have hbv : Below w4.heap.size w4 V5 := by rw [← hV5]; exact (Below.refl _ _).alloc (Nat.le_refl _) _
  obtain ⟨W5, hW5⟩ : ∃ z, ((V5.setCell ⟨w4.heap.size, 0, none⟩ (.bool SH)).setCell ⟨w4.heap.size, 1, none⟩ (.int .u32 (EN : Int))).setCell ⟨w4.heap.size, 2, none⟩ (.slice none 0 0) = z := ⟨_, rfl⟩
  have hb5 : Below w4.heap.size w4 W5 := by
    rw [← hW5]
    exact ((hbv.setCell (p := ⟨w4.heap.size, 0, none⟩) (Nat.le_refl _) _).setCell (p := ⟨w4.heap.size, 1, none⟩) (Nat.le_refl _) _).setCell (p := ⟨w4.heap.size, 2, none⟩) (Nat.le_refl _) _
  obtain ⟨q0, q1, q2⟩ := ev.cells
  have f0 := ev.frozen 0
  have f1 := ev.frozen 1
  have f2 := ev.frozen 2
  have KT3 := KT2.out W5 (HG4.out.2.1.kept (grown_of (row := none) hb5) (by simp))
  have HE : Hid (w.grownBy W5 (some R)) := gb_trans HG4.out.1 (grown_of hb5)
  clear ev hbv hb5
  go_wp2_with fail
  refine KT3.mono ?_
  rintro e w6 ⟨rfl, rfl⟩
  exact ⟨rfl, rfl, HE.out⟩
/-- A header, or its first error. -/
theorem header20 (R : Nat) (l : L8) (hl : l.length ≤ 1000000) (w : World) (hr : Rd R w l) : Calls Try.prog 20 #[.pointer (some ⟨R, 0, none⟩)] w fun e w' => ((hdE l = 0 ∧ ∃ v, e = .returned ((efAt l).val v) ∧ OwnG w.heap.size w' v (efAt l).segs) ∨ (hdE l ≠ 0 ∧ e = .panicked (thrown (hdE l : Int)))) ∧ w.grownBy w' (some R) := by
  by_cases h1 : l.length < 52
  · have e : hdE l = 101 := by unfold hdE; rw [if_pos h1]
    rw [e]
    exact (hdr_short R l hl w hr h1).mono fun e w' h => ⟨Or.inr ⟨by decide, h.1⟩, h.2⟩
  by_cases h2 : (l.take 16 == magicL) = false
  · have e : hdE l = 102 := by unfold hdE; rw [if_neg h1, if_pos h2]
    rw [e]
    exact (hdr_magic R l hl w hr (by omega) h2).mono fun e w' h => ⟨Or.inr ⟨by decide, h.1⟩, h.2⟩
  have m : (l.take 16 == magicL) = true := by simpa using h2
  by_cases h3 : formOk l = false
  · have e : hdE l = 103 := by unfold hdE; rw [if_neg h1, if_neg h2, if_pos h3]
    rw [e]
    exact (hdr_form R l hl w hr (by omega) m h3).mono fun e w' h => ⟨Or.inr ⟨by decide, h.1⟩, h.2⟩
  have fo : formOk l = true := by simpa using h3
  by_cases h4 : l.length < 52 + 32 * hf l 44
  · have e : hdE l = 101 := by unfold hdE; rw [if_neg h1, if_neg h2, if_neg h3, if_pos h4]
    rw [e]
    exact (hdr_cut R l hl w hr (by omega) m fo h4).mono fun e w' h => ⟨Or.inr ⟨by decide, h.1⟩, h.2⟩
  refine (hdr_rest R l hl (by omega) m fo w hr).mono fun e w' h => ⟨?_, h.2⟩
  rcases h.1 with ⟨h5, h6, v, h7⟩ | ⟨h5, h6⟩
  · exact Or.inl ⟨hd_of (by omega) m fo (by omega) h5 h6, v, h7⟩
  · have e : hdE l = 103 := by
      unfold hdE
      rw [if_neg h1, if_neg h2, if_neg h3, if_neg h4]
      by_cases h7 : segsOk l (hf l 44) = false
      · rw [if_pos h7]
      · rw [if_neg h7, if_pos]
        cases h8 : fitE (efAt l) with
        | false => rfl
        | true => exact absurd ⟨by simpa using h7, h8⟩ h5
    rw [e]
    exact Or.inr ⟨by decide, h6⟩
set_option maxHeartbeats 1000000 in
theorem far22 (g : Sg) (hb : g.Bd) (P0 : Nat) (S : ByteArray) (hS : S.size ≤ 1000000) (w : World) (hc : w.cell? ⟨P0, 0, none⟩ = some (.string S)) :
    Calls Try.prog 22 #[g.val, .pointer (some ⟨P0, 0, none⟩)] w fun e w' => e = .returned (.bool (farS S.size g)) ∧ Below w.heap.size w w' := by
  obtain ⟨W, hW, hbl, hz, q0, q1, q2, q3, q4, q5, q6⟩ := box7 w g
  have c0 := keep_cell hbl hc
  have HB : Hid (Below w.heap.size w W) := hbl
  have KS : Hid (∀ w', Calls Try.prog 23 #[.int .u32 (g.off : Int), .int .u32 (g.size : Int)] w' fun e w'' => e = .returned (.int .u64 ((g.off : Int) + (g.size : Int))) ∧ w'' = w') := fun w' => sum23 g.off g.size hb.o hb.s w'
  have hfa : farS S.size g = decide ((S.size : Int) < (g.off : Int) + (g.size : Int)) := by unfold farS; rw [Bool.eq_iff_iff]; simp only [decide_eq_true_eq]; omega
  rw [hfa]
  have eS : (S.size : Int) % 18446744073709551616 = (S.size : Int) := by omega
  have eSw : IntKind.u64.wrap (S.size : Int) = (S.size : Int) := by rw [IntKind.wrap_u64]; exact eS
  unfold Sg.val
  clear hbl hz hb hc hfa q0 q2 q4 q5 q6
  go_enter Try.func22, Try.ntmps22
  go_wp2
  refine wp_region_slots (R := Ext) [⟨4, fun v _ => v = .pointer (some ⟨w.heap.size, 1, none⟩), fun _ _ _ _ h => h⟩, ⟨5, fun v _ => v = .int .u32 (g.off : Int), fun _ _ _ _ h => h⟩, ⟨6, fun v _ => v = .pointer (some ⟨w.heap.size, 3, none⟩), fun _ _ _ _ h => h⟩, ⟨7, fun v _ => v = .int .u32 (g.size : Int), fun _ _ _ _ h => h⟩, ⟨8, fun v _ => v = .int .u64 ((g.off : Int) + (g.size : Int)), fun _ _ _ _ h => h⟩, ⟨9, fun v _ => v = .string S, fun _ _ _ _ h => h⟩, ⟨10, fun v _ => v = .int .i64 (S.size : Int), fun _ _ _ _ h => h⟩, ⟨11, fun v _ => v = .int .u64 (S.size : Int), fun _ _ _ _ h => h⟩, ⟨12, fun v _ => v = .bool (decide ((S.size : Int) < (g.off : Int) + (g.size : Int))), fun _ _ _ _ h => h⟩, ⟨3, fun v _ => v = .bool (decide ((S.size : Int) < (g.off : Int) + (g.size : Int))), fun _ _ _ _ h => h⟩] _ (by kernel_rfl) rfl (by kernel_rfl) (Below.drew (Below.refl _ _)) (fun _ _ _ h1 h2 => below_tr h1 h2) (fun QQ => ⟨?_, ?_, ?_, ?_, ?_, ?_, ?_, ?_, ?_, ?_, trivial⟩) (fun f wy hR hf => ?_)
  · intro A wx hR hout hdep K hK
    have h2 : A.tmps[2]?.getD undef = .pointer (some ⟨w.heap.size, 0, none⟩) := hout 2 (by kernel_rfl)
    refine if_yes (by kernel_rfl) ?_
    simp [go_sem, h2, eS, eSw]
    exact hK.out _ _ (Below.refl _ _) rfl
  · intro A wx hR hout hdep K hK
    have h4 : A.tmps[4]?.getD undef = .pointer (some ⟨w.heap.size, 1, none⟩) := hdep 4 (by kernel_rfl)
    refine if_yes (by kernel_rfl) ?_
    have q1 := keep_cell hR q1
    have q3 := keep_cell hR q3
    have c0 := keep_cell hR c0
    simp [go_sem, h4, q1, q3, c0, eS, eSw]
    exact hK.out _ _ (Below.refl _ _) rfl
  · intro A wx hR hout hdep K hK
    have h2 : A.tmps[2]?.getD undef = .pointer (some ⟨w.heap.size, 0, none⟩) := hout 2 (by kernel_rfl)
    refine if_yes (by kernel_rfl) ?_
    simp [go_sem, h2, eS, eSw]
    exact hK.out _ _ (Below.refl _ _) rfl
  · intro A wx hR hout hdep K hK
    have h6 : A.tmps[6]?.getD undef = .pointer (some ⟨w.heap.size, 3, none⟩) := hdep 6 (by kernel_rfl)
    refine if_yes (by kernel_rfl) ?_
    have q1 := keep_cell hR q1
    have q3 := keep_cell hR q3
    have c0 := keep_cell hR c0
    simp [go_sem, h6, q1, q3, c0, eS, eSw]
    exact hK.out _ _ (Below.refl _ _) rfl
  · intro A wx hR hout hdep K hK
    have h5 : A.tmps[5]?.getD undef = .int .u32 (g.off : Int) := hdep 5 (by kernel_rfl)
    have h7 : A.tmps[7]?.getD undef = .int .u32 (g.size : Int) := hdep 7 (by kernel_rfl)
    refine if_yes (by kernel_rfl) ?_
    simp [go_sem, h5, h7, eS, eSw]
    refine (KS.out wx).mono ?_
    rintro e wG ⟨rfl, rfl⟩
    exact hK.out _ _ (Below.refl _ _) rfl
  · intro A wx hR hout hdep K hK
    have h1 : A.tmps[1]?.getD undef = .pointer (some ⟨P0, 0, none⟩) := hout 1 (by kernel_rfl)
    refine if_yes (by kernel_rfl) ?_
    have q1 := keep_cell hR q1
    have q3 := keep_cell hR q3
    have c0 := keep_cell hR c0
    simp [go_sem, h1, q1, q3, c0, eS, eSw]
    exact hK.out _ _ (Below.refl _ _) rfl
  · intro A wx hR hout hdep K hK
    have h9 : A.tmps[9]?.getD undef = .string S := hdep 9 (by kernel_rfl)
    refine if_yes (by kernel_rfl) ?_
    simp [go_sem, h9, eS, eSw]
    exact hK.out _ _ (Below.refl _ _) rfl
  · intro A wx hR hout hdep K hK
    have h10 : A.tmps[10]?.getD undef = .int .i64 (S.size : Int) := hdep 10 (by kernel_rfl)
    refine if_yes (by kernel_rfl) ?_
    simp [go_sem, h10, eS, eSw]
    exact hK.out _ _ (Below.refl _ _) rfl
  · intro A wx hR hout hdep K hK
    have h8 : A.tmps[8]?.getD undef = .int .u64 ((g.off : Int) + (g.size : Int)) := hdep 8 (by kernel_rfl)
    have h11 : A.tmps[11]?.getD undef = .int .u64 (S.size : Int) := hdep 11 (by kernel_rfl)
    refine if_yes (by kernel_rfl) ?_
    simp [go_sem, h8, h11, eS, eSw]
    exact hK.out _ _ (Below.refl _ _) rfl
  · intro A wx hR hout hdep K hK
    have h12 : A.tmps[12]?.getD undef = .bool (decide ((S.size : Int) < (g.off : Int) + (g.size : Int))) := hdep 12 (by kernel_rfl)
    refine if_yes (by kernel_rfl) ?_
    simp [go_sem, h12, eS, eSw]
    exact hK.out _ _ (Below.refl _ _) rfl
  have h3 : f 3 = .bool (decide ((S.size : Int) < (g.off : Int) + (g.size : Int))) := hf 3 (by kernel_rfl)
  simp only [putSl, Act.put, List.setIfInBounds_toArray, List.set_cons_zero, List.set_cons_succ, h3]
  go_wp2
  go_ret
  exact ⟨rfl, below_tr HB.out hR⟩
end Go.Proofs.Ythhallhmolgpbaa
