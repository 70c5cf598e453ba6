/- What is proved here: which headers can be, their bytes and which are the same are the document's: the walk of ElfWrites. -/
import Derived.Test.YthhallhmolgpbaaAw
import Derived.Test.YthhallhmolgpbaaDx
import Derived.Test.YthhallhmolgpbaaOpn
namespace Go.Proofs.Ythhallhmolgpbaa
open Go.RowKit
set_option linter.unusedVariables false
set_option linter.unusedSimpArgs false
set_option maxRecDepth 100000
set_option maxHeartbeats 4000000 in
theorem writes_walk (a b : Ef) (va vb : Value) (w : World) (hsa : SlG w va a.segs) (hsb : SlG w vb b.segs) (ha : ∀ g ∈ a.segs, g.Bd) (hb : ∀ g ∈ b.segs, g.Bd) (ea : a.entry < 4294967296) :
    Calls Try.prog 4 #[a.val va, b.val vb] w fun e w' => e = .returned (.bool true) ∧ Below w.heap.size w w' := by
  obtain ⟨W0, hW0, hb0, hz0, q0, q1, q2⟩ := box3 w (.bool a.shared) (.int .u32 (a.entry : Int)) va 26
  obtain ⟨W, hW, hb1, hz1, p0, p1, p2⟩ := box3 W0 (.bool b.shared) (.int .u32 (b.entry : Int)) vb 26
  have q0 := keep_cell hb1 q0
  have q1 := keep_cell hb1 q1
  have q2 := keep_cell hb1 q2
  rw [hz0] at p0 p1 p2
  have HB : Hid (Below w.heap.size w W) := below_tr hb0 hb1
  have sa := hsa.keep HB.out
  have sb := hsb.keep HB.out
  have KA : Hid (∀ w', Calls Try.prog 7 #[] w' fun e w'' => e = .returned (.bool true) ∧ Below w'.heap.size w' w'') := awake7
  obtain ⟨ao, ac, rfl, x1, x2, x3, x4⟩ := hsa
  obtain ⟨bo, bc, rfl, y1, y2, y3, y4⟩ := hsb
  unfold Ef.val
  clear x4 y4 x3 y3 hb0 hb1 hz1
  by_cases h1 : 40 < a.segs.length
  · have i1 : (40 : Int) < (a.segs.length : Int) := by omega
    have d1 := decide_eq_true i1
    clear h1
    go_enter Try.func4, Try.ntmps4
    go_wp2_with fail
    refine (KA.out W).mono ?_
    rintro e w1 ⟨rfl, hb1⟩
    go_wp2
    go_ret
    exact ⟨rfl, below_tr HB.out hb1⟩
  have i1 : ¬ (40 : Int) < (a.segs.length : Int) := by omega
  have d1 := decide_eq_false i1
  by_cases h2 : 40 < b.segs.length
  · have i2 : (40 : Int) < (b.segs.length : Int) := by omega
    have d2 := decide_eq_true i2
    clear h1 h2
    go_enter Try.func4, Try.ntmps4
    go_wp2_with fail
    refine (KA.out W).mono ?_
    rintro e w1 ⟨rfl, hb1⟩
    go_wp2
    go_ret
    exact ⟨rfl, below_tr HB.out hb1⟩
  have i2 : ¬ (40 : Int) < (b.segs.length : Int) := by omega
  have d2 := decide_eq_false i2
  have K17 : Hid (∀ w', Below W.heap.size W w' → Calls Try.prog 13 #[.agg #[.bool a.shared, .int .u32 (a.entry : Int), .slice ao a.segs.length ac]] w' fun e w'' => e = .returned (.bool (fitE a)) ∧ Below w'.heap.size w' w'') := fun w' h => fit13 a _ w' (sa.keep h) ha (by omega)
  have K19 : Hid (∀ w', Below W.heap.size W w' → Calls Try.prog 14 #[.agg #[.bool a.shared, .int .u32 (a.entry : Int), .slice ao a.segs.length ac]] w' fun e w'' => e = .returned (.bool (fitE a)) ∧ Below w'.heap.size w' w'') := fun w' h => rfit14 a _ w' (sa.keep h) ha (by omega)
  have K23 : Hid (∀ w', Below W.heap.size W w' → Calls Try.prog 15 #[.agg #[.bool a.shared, .int .u32 (a.entry : Int), .slice ao a.segs.length ac]] w' fun e w'' => e = .returned (.string ⟨(wrL a).toArray⟩) ∧ Below w'.heap.size w' w'') := fun w' h => write15 a _ w' (sa.keep h) ha ea (by omega)
  have K25 : Hid (∀ w', Below W.heap.size W w' → Calls Try.prog 16 #[.agg #[.bool a.shared, .int .u32 (a.entry : Int), .slice ao a.segs.length ac]] w' fun e w'' => e = .returned (.string ⟨(wrL a).toArray⟩) ∧ Below w'.heap.size w' w'') := fun w' h => rwrite16 a _ w' (sa.keep h) ha ea (by omega)
  have K31 : Hid (∀ w', Below W.heap.size W w' → Calls Try.prog 17 #[.agg #[.bool a.shared, .int .u32 (a.entry : Int), .slice ao a.segs.length ac], .agg #[.bool b.shared, .int .u32 (b.entry : Int), .slice bo b.segs.length bc]] w' fun e w'' => e = .returned (.bool (sameE a b)) ∧ Below w'.heap.size w' w'') := fun w' h => same17 a b _ _ w' (sa.keep h) (sb.keep h) (by omega)
  have K34 : Hid (∀ w', Below W.heap.size W w' → Calls Try.prog 10 #[.agg #[.bool a.shared, .int .u32 (a.entry : Int), .slice ao a.segs.length ac], .agg #[.bool b.shared, .int .u32 (b.entry : Int), .slice bo b.segs.length bc]] w' fun e w'' => e = .returned (.bool (sameE a b)) ∧ Below w'.heap.size w' w'') := fun w' h => rsame10 a b _ _ w' (sa.keep h) (sb.keep h) (by omega)
  have K40 : Hid (∀ w', Below W.heap.size W w' → Calls Try.prog 17 #[.agg #[.bool a.shared, .int .u32 (a.entry : Int), .slice ao a.segs.length ac], .agg #[.bool a.shared, .int .u32 (a.entry : Int), .slice ao a.segs.length ac]] w' fun e w'' => e = .returned (.bool true) ∧ Below w'.heap.size w' w'') := fun w' h => by
    have := same17 a a _ _ w' (sa.keep h) (sa.keep h) (by omega)
    rw [(sameE_iff _ _).2 rfl] at this
    exact this
  have K43 : Hid (∀ w', Below W.heap.size W w' → Calls Try.prog 7 #[] w' fun e w'' => e = .returned (.bool true) ∧ Below w'.heap.size w' w'') := fun w' _ => KA.out w'
  generalize fitE a = FA at K17 K19
  generalize sameE a b = SM at K31 K34
  generalize (⟨(wrL a).toArray⟩ : ByteArray) = WA at K23 K25
  have sF : (FA == FA) = true := beq_self_eq_true _
  have sS : (SM == SM) = true := beq_self_eq_true _
  have sW : (WA.toList == WA.toList) = true := beq_self_eq_true _
  clear sa sb ha hb ea h1 h2 KA
  go_enter Try.func4, Try.ntmps4
  go_wp2
  clear hW hW0
  refine wp_region_slots (R := Ext) [⟨16, fun v _ => v = .agg #[.bool a.shared, .int .u32 (a.entry : Int), .slice ao a.segs.length ac], fun _ _ _ _ h => h⟩, ⟨17, fun v _ => v = .bool FA, fun _ _ _ _ h => h⟩, ⟨18, fun v _ => v = .agg #[.bool a.shared, .int .u32 (a.entry : Int), .slice ao a.segs.length ac], fun _ _ _ _ h => h⟩, ⟨19, fun v _ => v = .bool FA, fun _ _ _ _ h => h⟩, ⟨20, fun v _ => v = .bool true, fun _ _ _ _ h => h⟩, ⟨21, fun v _ => v = .bool true, fun _ _ _ _ h => h⟩, ⟨22, fun v _ => v = .agg #[.bool a.shared, .int .u32 (a.entry : Int), .slice ao a.segs.length ac], fun _ _ _ _ h => h⟩, ⟨23, fun v _ => v = .string WA, fun _ _ _ _ h => h⟩, ⟨24, fun v _ => v = .agg #[.bool a.shared, .int .u32 (a.entry : Int), .slice ao a.segs.length ac], fun _ _ _ _ h => h⟩, ⟨25, fun v _ => v = .string WA, fun _ _ _ _ h => h⟩, ⟨26, fun v _ => v = .bool true, fun _ _ _ _ h => h⟩, ⟨27, fun v _ => v = .bool true, fun _ _ _ _ h => h⟩, ⟨28, fun v _ => v = .bool true, fun _ _ _ _ h => h⟩, ⟨29, fun v _ => v = .agg #[.bool a.shared, .int .u32 (a.entry : Int), .slice ao a.segs.length ac], fun _ _ _ _ h => h⟩, ⟨30, fun v _ => v = .agg #[.bool b.shared, .int .u32 (b.entry : Int), .slice bo b.segs.length bc], fun _ _ _ _ h => h⟩, ⟨31, fun v _ => v = .bool SM, fun _ _ _ _ h => h⟩, ⟨32, fun v _ => v = .agg #[.bool a.shared, .int .u32 (a.entry : Int), .slice ao a.segs.length ac], fun _ _ _ _ h => h⟩, ⟨33, fun v _ => v = .agg #[.bool b.shared, .int .u32 (b.entry : Int), .slice bo b.segs.length bc], fun _ _ _ _ h => h⟩, ⟨34, fun v _ => v = .bool SM, fun _ _ _ _ h => h⟩, ⟨35, fun v _ => v = .bool true, fun _ _ _ _ h => h⟩, ⟨36, fun v _ => v = .bool true, fun _ _ _ _ h => h⟩, ⟨37, fun v _ => v = .bool true, fun _ _ _ _ h => h⟩, ⟨38, fun v _ => v = .agg #[.bool a.shared, .int .u32 (a.entry : Int), .slice ao a.segs.length ac], fun _ _ _ _ h => h⟩, ⟨39, fun v _ => v = .agg #[.bool a.shared, .int .u32 (a.entry : Int), .slice ao a.segs.length ac], fun _ _ _ _ h => h⟩, ⟨40, fun v _ => v = .bool true, fun _ _ _ _ h => h⟩, ⟨41, fun v _ => v = .bool true, fun _ _ _ _ h => h⟩, ⟨42, fun v _ => v = .bool true, fun _ _ _ _ h => h⟩, ⟨43, fun v _ => v = .bool true, fun _ _ _ _ h => h⟩, ⟨44, fun v _ => v = .bool true, fun _ _ _ _ h => h⟩, ⟨4, fun v _ => v = .bool true, fun _ _ _ _ h => h⟩] _ (by kernel_rfl) rfl (by kernel_rfl) (Below.drew (Below.refl _ _)) (fun _ _ _ h1 h2 => below_tr h1 h2) (fun QQ => ⟨?_, ?_, ?_, ?_, ?_, ?_, ?_, ?_, ?_, ?_, ?_, ?_, ?_, ?_, ?_, ?_, ?_, ?_, ?_, ?_, ?_, ?_, ?_, ?_, ?_, ?_, ?_, ?_, ?_, ?_, trivial⟩) (fun f wy hR hf => ?_)
  · intro A wx hR hout hdep K hK
    have h2 : A.tmps[2]?.getD undef = .pointer (some ⟨w.heap.size, 0, none⟩) := hout 2 (by kernel_rfl)
    refine if_yes (by kernel_rfl) ?_
    have q0 := keep_cell hR q0
    have q1 := keep_cell hR q1
    have q2 := keep_cell hR q2
    have p0 := keep_cell hR p0
    have p1 := keep_cell hR p1
    have p2 := keep_cell hR p2
    simp [go_sem, h2, q0, q1, q2, p0, p1, p2, sF, sW, sS]
    exact hK.out _ _ (Below.refl _ _) rfl
  · intro A wx hR hout hdep K hK
    have h16 : A.tmps[16]?.getD undef = .agg #[.bool a.shared, .int .u32 (a.entry : Int), .slice ao a.segs.length ac] := hdep 16 (by kernel_rfl)
    refine if_yes (by kernel_rfl) ?_
    simp [go_sem, h16, sF, sW, sS]
    refine (K17.out wx hR).mono ?_
    rintro e wG ⟨rfl, hbG⟩
    exact hK.out _ _ hbG rfl
  · intro A wx hR hout hdep K hK
    have h2 : A.tmps[2]?.getD undef = .pointer (some ⟨w.heap.size, 0, none⟩) := hout 2 (by kernel_rfl)
    refine if_yes (by kernel_rfl) ?_
    have q0 := keep_cell hR q0
    have q1 := keep_cell hR q1
    have q2 := keep_cell hR q2
    have p0 := keep_cell hR p0
    have p1 := keep_cell hR p1
    have p2 := keep_cell hR p2
    simp [go_sem, h2, q0, q1, q2, p0, p1, p2, sF, sW, sS]
    exact hK.out _ _ (Below.refl _ _) rfl
  · intro A wx hR hout hdep K hK
    have h18 : A.tmps[18]?.getD undef = .agg #[.bool a.shared, .int .u32 (a.entry : Int), .slice ao a.segs.length ac] := hdep 18 (by kernel_rfl)
    refine if_yes (by kernel_rfl) ?_
    simp [go_sem, h18, sF, sW, sS]
    refine (K19.out wx hR).mono ?_
    rintro e wG ⟨rfl, hbG⟩
    exact hK.out _ _ hbG rfl
  · intro A wx hR hout hdep K hK
    have h17 : A.tmps[17]?.getD undef = .bool FA := hdep 17 (by kernel_rfl)
    have h19 : A.tmps[19]?.getD undef = .bool FA := hdep 19 (by kernel_rfl)
    refine if_yes (by kernel_rfl) ?_
    simp [go_sem, h17, h19, sF, sW, sS]
    exact hK.out _ _ (Below.refl _ _) rfl
  · intro A wx hR hout hdep K hK
    have h20 : A.tmps[20]?.getD undef = .bool true := hdep 20 (by kernel_rfl)
    refine if_yes (by kernel_rfl) ?_
    simp [go_sem, h20, sF, sW, sS]
    exact hK.out _ _ (Below.refl _ _) rfl
  · intro A wx hR hout hdep K hK
    have h2 : A.tmps[2]?.getD undef = .pointer (some ⟨w.heap.size, 0, none⟩) := hout 2 (by kernel_rfl)
    have h21 : A.tmps[21]?.getD undef = .bool true := hdep 21 (by kernel_rfl)
    refine if_yes ((wanted_is (j := 5) (b := true) (by kernel_rfl) (by kernel_rfl) h21).trans rfl) ?_
    have q0 := keep_cell hR q0
    have q1 := keep_cell hR q1
    have q2 := keep_cell hR q2
    have p0 := keep_cell hR p0
    have p1 := keep_cell hR p1
    have p2 := keep_cell hR p2
    simp [go_sem, h2, q0, q1, q2, p0, p1, p2, sF, sW, sS]
    exact hK.out _ _ (Below.refl _ _) rfl
  · intro A wx hR hout hdep K hK
    have h22 : A.tmps[22]?.getD undef = .agg #[.bool a.shared, .int .u32 (a.entry : Int), .slice ao a.segs.length ac] := hdep 22 (by kernel_rfl)
    have h21 : A.tmps[21]?.getD undef = .bool true := hdep 21 (by kernel_rfl)
    refine if_yes ((wanted_is (j := 5) (b := true) (by kernel_rfl) (by kernel_rfl) h21).trans rfl) ?_
    simp [go_sem, h22, sF, sW, sS]
    refine (K23.out wx hR).mono ?_
    rintro e wG ⟨rfl, hbG⟩
    exact hK.out _ _ hbG rfl
  · intro A wx hR hout hdep K hK
    have h2 : A.tmps[2]?.getD undef = .pointer (some ⟨w.heap.size, 0, none⟩) := hout 2 (by kernel_rfl)
    have h21 : A.tmps[21]?.getD undef = .bool true := hdep 21 (by kernel_rfl)
    refine if_yes ((wanted_is (j := 5) (b := true) (by kernel_rfl) (by kernel_rfl) h21).trans rfl) ?_
    have q0 := keep_cell hR q0
    have q1 := keep_cell hR q1
    have q2 := keep_cell hR q2
    have p0 := keep_cell hR p0
    have p1 := keep_cell hR p1
    have p2 := keep_cell hR p2
    simp [go_sem, h2, q0, q1, q2, p0, p1, p2, sF, sW, sS]
    exact hK.out _ _ (Below.refl _ _) rfl
  · intro A wx hR hout hdep K hK
    have h24 : A.tmps[24]?.getD undef = .agg #[.bool a.shared, .int .u32 (a.entry : Int), .slice ao a.segs.length ac] := hdep 24 (by kernel_rfl)
    have h21 : A.tmps[21]?.getD undef = .bool true := hdep 21 (by kernel_rfl)
    refine if_yes ((wanted_is (j := 5) (b := true) (by kernel_rfl) (by kernel_rfl) h21).trans rfl) ?_
    simp [go_sem, h24, sF, sW, sS]
    refine (K25.out wx hR).mono ?_
    rintro e wG ⟨rfl, hbG⟩
    exact hK.out _ _ hbG rfl
  · intro A wx hR hout hdep K hK
    have h23 : A.tmps[23]?.getD undef = .string WA := hdep 23 (by kernel_rfl)
    have h25 : A.tmps[25]?.getD undef = .string WA := hdep 25 (by kernel_rfl)
    have h21 : A.tmps[21]?.getD undef = .bool true := hdep 21 (by kernel_rfl)
    refine if_yes ((wanted_is (j := 5) (b := true) (by kernel_rfl) (by kernel_rfl) h21).trans rfl) ?_
    simp [go_sem, h23, h25, sF, sW, sS]
    exact hK.out _ _ (Below.refl _ _) rfl
  · intro A wx hR hout hdep K hK
    have h21 : A.tmps[21]?.getD undef = .bool true := hdep 21 (by kernel_rfl)
    have h26 : A.tmps[26]?.getD undef = .bool true := hdep 26 (by kernel_rfl)
    refine if_yes (by kernel_rfl) ?_
    simp [go_sem, h21, h26, sF, sW, sS]
    exact hK.out _ _ (Below.refl _ _) rfl
  · intro A wx hR hout hdep K hK
    have h27 : A.tmps[27]?.getD undef = .bool true := hdep 27 (by kernel_rfl)
    refine if_yes (by kernel_rfl) ?_
    simp [go_sem, h27, sF, sW, sS]
    exact hK.out _ _ (Below.refl _ _) rfl
  · intro A wx hR hout hdep K hK
    have h2 : A.tmps[2]?.getD undef = .pointer (some ⟨w.heap.size, 0, none⟩) := hout 2 (by kernel_rfl)
    have h28 : A.tmps[28]?.getD undef = .bool true := hdep 28 (by kernel_rfl)
    refine if_yes ((wanted_is (j := 12) (b := true) (by kernel_rfl) (by kernel_rfl) h28).trans rfl) ?_
    have q0 := keep_cell hR q0
    have q1 := keep_cell hR q1
    have q2 := keep_cell hR q2
    have p0 := keep_cell hR p0
    have p1 := keep_cell hR p1
    have p2 := keep_cell hR p2
    simp [go_sem, h2, q0, q1, q2, p0, p1, p2, sF, sW, sS]
    exact hK.out _ _ (Below.refl _ _) rfl
  · intro A wx hR hout hdep K hK
    have h3 : A.tmps[3]?.getD undef = .pointer (some ⟨w.heap.size + 1, 0, none⟩) := hout 3 (by kernel_rfl)
    have h28 : A.tmps[28]?.getD undef = .bool true := hdep 28 (by kernel_rfl)
    refine if_yes ((wanted_is (j := 12) (b := true) (by kernel_rfl) (by kernel_rfl) h28).trans rfl) ?_
    have q0 := keep_cell hR q0
    have q1 := keep_cell hR q1
    have q2 := keep_cell hR q2
    have p0 := keep_cell hR p0
    have p1 := keep_cell hR p1
    have p2 := keep_cell hR p2
    simp [go_sem, h3, q0, q1, q2, p0, p1, p2, sF, sW, sS]
    exact hK.out _ _ (Below.refl _ _) rfl
  · intro A wx hR hout hdep K hK
    have h29 : A.tmps[29]?.getD undef = .agg #[.bool a.shared, .int .u32 (a.entry : Int), .slice ao a.segs.length ac] := hdep 29 (by kernel_rfl)
    have h30 : A.tmps[30]?.getD undef = .agg #[.bool b.shared, .int .u32 (b.entry : Int), .slice bo b.segs.length bc] := hdep 30 (by kernel_rfl)
    have h28 : A.tmps[28]?.getD undef = .bool true := hdep 28 (by kernel_rfl)
    refine if_yes ((wanted_is (j := 12) (b := true) (by kernel_rfl) (by kernel_rfl) h28).trans rfl) ?_
    simp [go_sem, h29, h30, sF, sW, sS]
    refine (K31.out wx hR).mono ?_
    rintro e wG ⟨rfl, hbG⟩
    exact hK.out _ _ hbG rfl
  · intro A wx hR hout hdep K hK
    have h2 : A.tmps[2]?.getD undef = .pointer (some ⟨w.heap.size, 0, none⟩) := hout 2 (by kernel_rfl)
    have h28 : A.tmps[28]?.getD undef = .bool true := hdep 28 (by kernel_rfl)
    refine if_yes ((wanted_is (j := 12) (b := true) (by kernel_rfl) (by kernel_rfl) h28).trans rfl) ?_
    have q0 := keep_cell hR q0
    have q1 := keep_cell hR q1
    have q2 := keep_cell hR q2
    have p0 := keep_cell hR p0
    have p1 := keep_cell hR p1
    have p2 := keep_cell hR p2
    simp [go_sem, h2, q0, q1, q2, p0, p1, p2, sF, sW, sS]
    exact hK.out _ _ (Below.refl _ _) rfl
  · intro A wx hR hout hdep K hK
    have h3 : A.tmps[3]?.getD undef = .pointer (some ⟨w.heap.size + 1, 0, none⟩) := hout 3 (by kernel_rfl)
    have h28 : A.tmps[28]?.getD undef = .bool true := hdep 28 (by kernel_rfl)
    refine if_yes ((wanted_is (j := 12) (b := true) (by kernel_rfl) (by kernel_rfl) h28).trans rfl) ?_
    have q0 := keep_cell hR q0
    have q1 := keep_cell hR q1
    have q2 := keep_cell hR q2
    have p0 := keep_cell hR p0
    have p1 := keep_cell hR p1
    have p2 := keep_cell hR p2
    simp [go_sem, h3, q0, q1, q2, p0, p1, p2, sF, sW, sS]
    exact hK.out _ _ (Below.refl _ _) rfl
  · intro A wx hR hout hdep K hK
    have h32 : A.tmps[32]?.getD undef = .agg #[.bool a.shared, .int .u32 (a.entry : Int), .slice ao a.segs.length ac] := hdep 32 (by kernel_rfl)
    have h33 : A.tmps[33]?.getD undef = .agg #[.bool b.shared, .int .u32 (b.entry : Int), .slice bo b.segs.length bc] := hdep 33 (by kernel_rfl)
    have h28 : A.tmps[28]?.getD undef = .bool true := hdep 28 (by kernel_rfl)
    refine if_yes ((wanted_is (j := 12) (b := true) (by kernel_rfl) (by kernel_rfl) h28).trans rfl) ?_
    simp [go_sem, h32, h33, sF, sW, sS]
    refine (K34.out wx hR).mono ?_
    rintro e wG ⟨rfl, hbG⟩
    exact hK.out _ _ hbG rfl
  · intro A wx hR hout hdep K hK
    have h31 : A.tmps[31]?.getD undef = .bool SM := hdep 31 (by kernel_rfl)
    have h34 : A.tmps[34]?.getD undef = .bool SM := hdep 34 (by kernel_rfl)
    have h28 : A.tmps[28]?.getD undef = .bool true := hdep 28 (by kernel_rfl)
    refine if_yes ((wanted_is (j := 12) (b := true) (by kernel_rfl) (by kernel_rfl) h28).trans rfl) ?_
    simp [go_sem, h31, h34, sF, sW, sS]
    exact hK.out _ _ (Below.refl _ _) rfl
  · intro A wx hR hout hdep K hK
    have h28 : A.tmps[28]?.getD undef = .bool true := hdep 28 (by kernel_rfl)
    have h35 : A.tmps[35]?.getD undef = .bool true := hdep 35 (by kernel_rfl)
    refine if_yes (by kernel_rfl) ?_
    simp [go_sem, h28, h35, sF, sW, sS]
    exact hK.out _ _ (Below.refl _ _) rfl
  · intro A wx hR hout hdep K hK
    have h36 : A.tmps[36]?.getD undef = .bool true := hdep 36 (by kernel_rfl)
    refine if_yes (by kernel_rfl) ?_
    simp [go_sem, h36, sF, sW, sS]
    exact hK.out _ _ (Below.refl _ _) rfl
  · intro A wx hR hout hdep K hK
    have h2 : A.tmps[2]?.getD undef = .pointer (some ⟨w.heap.size, 0, none⟩) := hout 2 (by kernel_rfl)
    have h37 : A.tmps[37]?.getD undef = .bool true := hdep 37 (by kernel_rfl)
    refine if_yes ((wanted_is (j := 21) (b := true) (by kernel_rfl) (by kernel_rfl) h37).trans rfl) ?_
    have q0 := keep_cell hR q0
    have q1 := keep_cell hR q1
    have q2 := keep_cell hR q2
    have p0 := keep_cell hR p0
    have p1 := keep_cell hR p1
    have p2 := keep_cell hR p2
    simp [go_sem, h2, q0, q1, q2, p0, p1, p2, sF, sW, sS]
    exact hK.out _ _ (Below.refl _ _) rfl
  · intro A wx hR hout hdep K hK
    have h2 : A.tmps[2]?.getD undef = .pointer (some ⟨w.heap.size, 0, none⟩) := hout 2 (by kernel_rfl)
    have h37 : A.tmps[37]?.getD undef = .bool true := hdep 37 (by kernel_rfl)
    refine if_yes ((wanted_is (j := 21) (b := true) (by kernel_rfl) (by kernel_rfl) h37).trans rfl) ?_
    have q0 := keep_cell hR q0
    have q1 := keep_cell hR q1
    have q2 := keep_cell hR q2
    have p0 := keep_cell hR p0
    have p1 := keep_cell hR p1
    have p2 := keep_cell hR p2
    simp [go_sem, h2, q0, q1, q2, p0, p1, p2, sF, sW, sS]
    exact hK.out _ _ (Below.refl _ _) rfl
  · intro A wx hR hout hdep K hK
    have h38 : A.tmps[38]?.getD undef = .agg #[.bool a.shared, .int .u32 (a.entry : Int), .slice ao a.segs.length ac] := hdep 38 (by kernel_rfl)
    have h39 : A.tmps[39]?.getD undef = .agg #[.bool a.shared, .int .u32 (a.entry : Int), .slice ao a.segs.length ac] := hdep 39 (by kernel_rfl)
    have h37 : A.tmps[37]?.getD undef = .bool true := hdep 37 (by kernel_rfl)
    refine if_yes ((wanted_is (j := 21) (b := true) (by kernel_rfl) (by kernel_rfl) h37).trans rfl) ?_
    simp [go_sem, h38, h39, sF, sW, sS]
    refine (K40.out wx hR).mono ?_
    rintro e wG ⟨rfl, hbG⟩
    exact hK.out _ _ hbG rfl
  · intro A wx hR hout hdep K hK
    have h37 : A.tmps[37]?.getD undef = .bool true := hdep 37 (by kernel_rfl)
    have h40 : A.tmps[40]?.getD undef = .bool true := hdep 40 (by kernel_rfl)
    refine if_yes (by kernel_rfl) ?_
    simp [go_sem, h37, h40, sF, sW, sS]
    exact hK.out _ _ (Below.refl _ _) rfl
  · intro A wx hR hout hdep K hK
    have h41 : A.tmps[41]?.getD undef = .bool true := hdep 41 (by kernel_rfl)
    refine if_yes (by kernel_rfl) ?_
    simp [go_sem, h41, sF, sW, sS]
    exact hK.out _ _ (Below.refl _ _) rfl
  · intro A wx hR hout hdep K hK
    have h42 : A.tmps[42]?.getD undef = .bool true := hdep 42 (by kernel_rfl)
    refine if_yes ((wanted_is (j := 26) (b := true) (by kernel_rfl) (by kernel_rfl) h42).trans rfl) ?_
    simp [go_sem, sF, sW, sS]
    refine (K43.out wx hR).mono ?_
    rintro e wG ⟨rfl, hbG⟩
    exact hK.out _ _ hbG rfl
  · intro A wx hR hout hdep K hK
    have h42 : A.tmps[42]?.getD undef = .bool true := hdep 42 (by kernel_rfl)
    have h43 : A.tmps[43]?.getD undef = .bool true := hdep 43 (by kernel_rfl)
    refine if_yes (by kernel_rfl) ?_
    simp [go_sem, h42, h43, sF, sW, sS]
    exact hK.out _ _ (Below.refl _ _) rfl
  · intro A wx hR hout hdep K hK
    have h44 : A.tmps[44]?.getD undef = .bool true := hdep 44 (by kernel_rfl)
    refine if_yes (by kernel_rfl) ?_
    simp [go_sem, h44, sF, sW, sS]
    exact hK.out _ _ (Below.refl _ _) rfl
  have h4 : f 4 = .bool true := hf 4 (by kernel_rfl)
  simp only [putSl, Act.put, List.setIfInBounds_toArray, List.set_cons_zero, List.set_cons_succ, h4]
  go_wp2
  go_ret
  exact ⟨rfl, below_tr HB.out hR⟩
end Go.Proofs.Ythhallhmolgpbaa
