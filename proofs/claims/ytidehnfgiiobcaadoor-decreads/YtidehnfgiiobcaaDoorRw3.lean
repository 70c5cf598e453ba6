/- What is proved here: the walks of DecReads and DecWrites. -/
import Derived.Test.YtidehnfgiiobcaaDoorDn
namespace Go.Proofs.YtidehnfgiiobcaaDoor
open Go.RowKit
set_option linter.unusedVariables false
set_option linter.unusedSimpArgs false
set_option maxRecDepth 100000
set_option maxHeartbeats 1000000 in
theorem reads_walk (x : Nat) (hx : x < 4294967296) (w : World) (ht : Tab w) : Calls Tryd.prog 3 #[.int .u32 (x : Int)] w fun e w' => e = .returned (.bool true) ∧ Below w.heap.size w w' := by
  have K8 := decode8 x hx w ht
  have K9 : Hid (∀ w', Calls Tryd.prog 9 #[.int .u32 (x : Int)] w' fun e w'' => e = .returned (.tuple #[(decN x).val, .bool (isWord x)]) ∧ Below w'.heap.size w' w'') := fun w' => decodeD9 x hx w'
  have HT : Hid (∀ w', Below w.heap.size w w' → Tab w') := fun w' h => ht.keep h
  have EQ := fun w' => eq24 (decN x) (decN x) w'
  rw [inEq_refl] at EQ
  generalize decN x = I at K8 K9 EQ
  generalize isWord x = iw at K8 K9
  obtain ⟨n1, r1, r2, r3, r4, m1⟩ := I
  simp only [In.val] at K8 K9 EQ
  clear ht hx
  go_enter Tryd.func3, Tryd.ntmps3
  go_wp2_with fail
  refine K8.mono ?_
  rintro e w1 ⟨rfl, hb1⟩
  obtain ⟨w2, hw2, hb2, p0, p1, p2, p3, p4, p5⟩ := box6b w1 ⟨n1, r1, r2, r3, r4, m1⟩
  have HB2 : Hid (Below w.heap.size w w2) := below_tr hb1 hb2
  have KD := K9.out w2
  simp only at hw2 p0 p1 p2 p3 p4 p5
  clear K8 K9 hb1 hb2
  go_wp2_with fail
  refine KD.mono ?_
  rintro e w3 ⟨rfl, hb3⟩
  obtain ⟨w4, hw4, hb4, q0, q1, q2, q3, q4, q5⟩ := box6b w3 ⟨n1, r1, r2, r3, r4, m1⟩
  have hb34 := below_tr hb3 hb4
  have HB4 : Hid (Below w.heap.size w w4) := below_tr HB2.out hb34
  have p0 := keep_cell hb34 p0
  have p1 := keep_cell hb34 p1
  have p2 := keep_cell hb34 p2
  have p3 := keep_cell hb34 p3
  have p4 := keep_cell hb34 p4
  have p5 := keep_cell hb34 p5
  have KA := awake10 w4 (HT.out _ HB4.out)
  simp only at hw4 q0 q1 q2 q3 q4 q5
  clear KD hb3 hb4 hb34
  cases iw with
  | true =>
    go_wp2_with fail
    refine KA.mono ?_
    rintro e w5 ⟨rfl, hb5⟩
    have HBE : Hid (Below w.heap.size w w5) := below_tr HB4.out hb5
    clear KA hb5
    go_wp2
    go_ret
    exact ⟨rfl, HBE.out⟩
  | false =>
    go_wp2_with fail
    refine KA.mono ?_
    rintro e w5 ⟨rfl, hb5⟩
    have HBE : Hid (Below w.heap.size w w5) := below_tr HB4.out hb5
    clear KA hb5
    go_wp2
    go_ret
    exact ⟨rfl, HBE.out⟩
set_option maxHeartbeats 1000000 in
theorem writes_walk (i : In) (hi : i.imm < 4294967296) (w : World) (ht : Tab w) : Calls Tryd.prog 4 #[i.val] w fun e w' => e = .returned (.bool true) ∧ Below w.heap.size w w' := by
  obtain ⟨W, hW, hb, p0, p1, p2, p3, p4, p5⟩ := box6b w i
  have HB : Hid (Below w.heap.size w W) := hb
  have HT : Hid (∀ w', Below W.heap.size W w' → Tab w') := fun w' h => ht.keep (below_tr hb h)
  have K11 := encode11 i hi W (ht.keep hb)
  have hee := enc_eq i
  have hok := selA_ok i.name
  have K12 : Hid (∀ w', Calls Tryd.prog 12 #[i.val] w' fun e w'' => e = .returned (.tuple #[.int .u32 (encN i : Int), .bool (isIns i)]) ∧ Below w'.heap.size w' w'') := fun w' => by
    rw [← hee.2, ← hee.1]
    exact encodeD12 i hi _ rfl hok.1 hok.2.1 hok.2.2 w'
  have K13 : Hid (∀ w', Calls Tryd.prog 13 #[.string i.name] w' fun e w'' => e = .returned (.string (foundR (nameB i.name)).form) ∧ Below w'.heap.size w' w'') := fun w' => form13 _ w'
  have K14 : Hid (∀ w', Calls Tryd.prog 14 #[.string i.name] w' fun e w'' => e = .returned (.string (foundR (nameB i.name)).form) ∧ Below w'.heap.size w' w'') := fun w' => by rw [form_eq]; exact form14 _ w'
  generalize (foundR (nameB i.name)).form = F at K13 K14
  generalize encN i = EN at K11 K12
  generalize isIns i = ib at K11 K12
  clear hee hok hi ht hb
  obtain ⟨nm, rs, rt, rd, sa, imm⟩ := i
  simp only [In.val] at K11 K12 K13 K14 hW p0 p1 p2 p3 p4 p5 ⊢
  go_enter Tryd.func4, Tryd.ntmps4
  go_wp2_with fail
  refine K11.mono ?_
  rintro e w1 ⟨rfl, hb1⟩
  have p0 := keep_cell hb1 p0
  have p1 := keep_cell hb1 p1
  have p2 := keep_cell hb1 p2
  have p3 := keep_cell hb1 p3
  have p4 := keep_cell hb1 p4
  have p5 := keep_cell hb1 p5
  have HB1 : Hid (Below W.heap.size W w1) := hb1
  have KD := K12.out w1
  clear K11 K12 hb1
  go_wp2_with fail
  refine KD.mono ?_
  rintro e w2 ⟨rfl, hb2⟩
  have p0 := keep_cell hb2 p0
  have HB2 : Hid (Below W.heap.size W w2) := below_tr HB1.out hb2
  have KA : Hid (∀ w', Below w2.heap.size w2 w' → Calls Tryd.prog 10 #[] w' fun e w'' => e = .returned (.bool true) ∧ Below w'.heap.size w' w'') := fun w' h => awake10 w' (HT.out _ (below_tr HB2.out h))
  have K13 : Hid (∀ w', Below w2.heap.size w2 w' → _) := fun w' _ => K13.out w'
  have K14 : Hid (∀ w', Below w2.heap.size w2 w' → _) := fun w' _ => K14.out w'
  clear KD hb2 p1 p2 p3 p4 p5
  go_wp2
  refine wp_region_slots (R := Ext) [⟨17, fun v _ => v = .int .u32 (EN : Int), fun _ _ _ _ h => h⟩, ⟨18, fun v _ => v = .int .u32 (EN : Int), fun _ _ _ _ h => h⟩, ⟨19, fun v _ => v = .bool true, fun _ _ _ _ h => h⟩, ⟨20, fun v _ => v = .bool true, fun _ _ _ _ h => h⟩, ⟨21, fun v _ => v = .bool ib, fun _ _ _ _ h => h⟩, ⟨22, fun v _ => v = .bool ib, fun _ _ _ _ h => h⟩, ⟨23, fun v _ => v = .bool true, fun _ _ _ _ h => h⟩, ⟨24, fun v _ => v = .bool true, fun _ _ _ _ h => h⟩, ⟨25, fun v _ => v = .bool true, fun _ _ _ _ h => h⟩, ⟨26, fun v _ => v = .pointer (some ⟨w.heap.size, 0, none⟩), fun _ _ _ _ h => h⟩, ⟨27, fun v _ => v = .string nm, fun _ _ _ _ h => h⟩, ⟨28, fun v _ => v = .string F, fun _ _ _ _ h => h⟩, ⟨29, fun v _ => v = .pointer (some ⟨w.heap.size, 0, none⟩), fun _ _ _ _ h => h⟩, ⟨30, fun v _ => v = .string nm, fun _ _ _ _ h => h⟩, ⟨31, fun v _ => v = .string F, fun _ _ _ _ h => h⟩, ⟨32, fun v _ => v = .bool true, fun _ _ _ _ h => h⟩, ⟨33, fun v _ => v = .bool true, fun _ _ _ _ h => h⟩, ⟨34, fun v _ => v = .bool true, fun _ _ _ _ h => h⟩, ⟨35, fun v _ => v = .bool true, fun _ _ _ _ h => h⟩, ⟨36, fun v _ => v = .bool true, fun _ _ _ _ h => h⟩, ⟨2, fun v _ => v = .bool true, fun _ _ _ _ h => h⟩] _ (by kernel_rfl) rfl (by kernel_rfl) (Below.drew (Below.refl _ _)) (fun _ _ _ h1 h2 => below_tr h1 h2) (fun QQ => ⟨?_, ?_, ?_, ?_, ?_, ?_, ?_, ?_, ?_, ?_, ?_, ?_, ?_, ?_, ?_, ?_, ?_, ?_, ?_, ?_, ?_, trivial⟩) (fun f wy hR hf => ?_)
  · intro A wx hR hout hdep K hK
    have h3 : A.tmps[3]?.getD undef = .int .u32 (EN : Int) := hout 3 (by kernel_rfl)
    refine if_yes (by kernel_rfl) ?_
    simp [go_sem, h3]
    exact hK.out _ _ (Below.refl _ _) rfl
  · intro A wx hR hout hdep K hK
    have h5 : A.tmps[5]?.getD undef = .int .u32 (EN : Int) := hout 5 (by kernel_rfl)
    refine if_yes (by kernel_rfl) ?_
    simp [go_sem, h5]
    exact hK.out _ _ (Below.refl _ _) rfl
  · intro A wx hR hout hdep K hK
    have h17 : A.tmps[17]?.getD undef = .int .u32 (EN : Int) := hdep 17 (by kernel_rfl)
    have h18 : A.tmps[18]?.getD undef = .int .u32 (EN : Int) := hdep 18 (by kernel_rfl)
    refine if_yes (by kernel_rfl) ?_
    simp [go_sem, h17, h18]
    exact hK.out _ _ (Below.refl _ _) rfl
  · intro A wx hR hout hdep K hK
    have h19 : A.tmps[19]?.getD undef = .bool true := hdep 19 (by kernel_rfl)
    refine if_yes (by kernel_rfl) ?_
    simp [go_sem, h19]
    exact hK.out _ _ (Below.refl _ _) rfl
  · intro A wx hR hout hdep K hK
    have h4 : A.tmps[4]?.getD undef = .bool ib := hout 4 (by kernel_rfl)
    have h20 : A.tmps[20]?.getD undef = .bool true := hdep 20 (by kernel_rfl)
    refine if_yes ((wanted_is (j := 3) (b := true) (by kernel_rfl) (by kernel_rfl) h20).trans rfl) ?_
    simp [go_sem, h4]
    exact hK.out _ _ (Below.refl _ _) rfl
  · intro A wx hR hout hdep K hK
    have h6 : A.tmps[6]?.getD undef = .bool ib := hout 6 (by kernel_rfl)
    have h20 : A.tmps[20]?.getD undef = .bool true := hdep 20 (by kernel_rfl)
    refine if_yes ((wanted_is (j := 3) (b := true) (by kernel_rfl) (by kernel_rfl) h20).trans rfl) ?_
    simp [go_sem, h6]
    exact hK.out _ _ (Below.refl _ _) rfl
  · intro A wx hR hout hdep K hK
    have h21 : A.tmps[21]?.getD undef = .bool ib := hdep 21 (by kernel_rfl)
    have h22 : A.tmps[22]?.getD undef = .bool ib := hdep 22 (by kernel_rfl)
    have h20 : A.tmps[20]?.getD undef = .bool true := hdep 20 (by kernel_rfl)
    refine if_yes ((wanted_is (j := 3) (b := true) (by kernel_rfl) (by kernel_rfl) h20).trans rfl) ?_
    simp [go_sem, h21, h22]
    exact hK.out _ _ (Below.refl _ _) rfl
  · intro A wx hR hout hdep K hK
    have h20 : A.tmps[20]?.getD undef = .bool true := hdep 20 (by kernel_rfl)
    have h23 : A.tmps[23]?.getD undef = .bool true := hdep 23 (by kernel_rfl)
    refine if_yes (by kernel_rfl) ?_
    simp [go_sem, h20, h23]
    exact hK.out _ _ (Below.refl _ _) rfl
  · intro A wx hR hout hdep K hK
    have h24 : A.tmps[24]?.getD undef = .bool true := hdep 24 (by kernel_rfl)
    refine if_yes (by kernel_rfl) ?_
    simp [go_sem, h24]
    exact hK.out _ _ (Below.refl _ _) rfl
  · intro A wx hR hout hdep K hK
    have h1 : A.tmps[1]?.getD undef = .pointer (some ⟨w.heap.size, 0, none⟩) := hout 1 (by kernel_rfl)
    have h25 : A.tmps[25]?.getD undef = .bool true := hdep 25 (by kernel_rfl)
    refine if_yes ((wanted_is (j := 8) (b := true) (by kernel_rfl) (by kernel_rfl) h25).trans rfl) ?_
    simp [go_sem, h1]
    exact hK.out _ _ (Below.refl _ _) rfl
  · intro A wx hR hout hdep K hK
    have h26 : A.tmps[26]?.getD undef = .pointer (some ⟨w.heap.size, 0, none⟩) := hdep 26 (by kernel_rfl)
    have h25 : A.tmps[25]?.getD undef = .bool true := hdep 25 (by kernel_rfl)
    refine if_yes ((wanted_is (j := 8) (b := true) (by kernel_rfl) (by kernel_rfl) h25).trans rfl) ?_
    have p0 := keep_cell hR p0
    simp [go_sem, h26, p0]
    exact hK.out _ _ (Below.refl _ _) rfl
  · intro A wx hR hout hdep K hK
    have h27 : A.tmps[27]?.getD undef = .string nm := hdep 27 (by kernel_rfl)
    have h25 : A.tmps[25]?.getD undef = .bool true := hdep 25 (by kernel_rfl)
    refine if_yes ((wanted_is (j := 8) (b := true) (by kernel_rfl) (by kernel_rfl) h25).trans rfl) ?_
    simp [go_sem, h27]
    refine (K13.out wx hR).mono ?_
    rintro e wG ⟨rfl, hbG⟩
    exact hK.out _ _ hbG rfl
  · intro A wx hR hout hdep K hK
    have h1 : A.tmps[1]?.getD undef = .pointer (some ⟨w.heap.size, 0, none⟩) := hout 1 (by kernel_rfl)
    have h25 : A.tmps[25]?.getD undef = .bool true := hdep 25 (by kernel_rfl)
    refine if_yes ((wanted_is (j := 8) (b := true) (by kernel_rfl) (by kernel_rfl) h25).trans rfl) ?_
    simp [go_sem, h1]
    exact hK.out _ _ (Below.refl _ _) rfl
  · intro A wx hR hout hdep K hK
    have h29 : A.tmps[29]?.getD undef = .pointer (some ⟨w.heap.size, 0, none⟩) := hdep 29 (by kernel_rfl)
    have h25 : A.tmps[25]?.getD undef = .bool true := hdep 25 (by kernel_rfl)
    refine if_yes ((wanted_is (j := 8) (b := true) (by kernel_rfl) (by kernel_rfl) h25).trans rfl) ?_
    have p0 := keep_cell hR p0
    simp [go_sem, h29, p0]
    exact hK.out _ _ (Below.refl _ _) rfl
  · intro A wx hR hout hdep K hK
    have h30 : A.tmps[30]?.getD undef = .string nm := hdep 30 (by kernel_rfl)
    have h25 : A.tmps[25]?.getD undef = .bool true := hdep 25 (by kernel_rfl)
    refine if_yes ((wanted_is (j := 8) (b := true) (by kernel_rfl) (by kernel_rfl) h25).trans rfl) ?_
    simp [go_sem, h30]
    refine (K14.out wx hR).mono ?_
    rintro e wG ⟨rfl, hbG⟩
    exact hK.out _ _ hbG rfl
  · intro A wx hR hout hdep K hK
    have h28 : A.tmps[28]?.getD undef = .string F := hdep 28 (by kernel_rfl)
    have h31 : A.tmps[31]?.getD undef = .string F := hdep 31 (by kernel_rfl)
    have h25 : A.tmps[25]?.getD undef = .bool true := hdep 25 (by kernel_rfl)
    refine if_yes ((wanted_is (j := 8) (b := true) (by kernel_rfl) (by kernel_rfl) h25).trans rfl) ?_
    simp [go_sem, h28, h31]
    exact hK.out _ _ (Below.refl _ _) rfl
  · intro A wx hR hout hdep K hK
    have h25 : A.tmps[25]?.getD undef = .bool true := hdep 25 (by kernel_rfl)
    have h32 : A.tmps[32]?.getD undef = .bool true := hdep 32 (by kernel_rfl)
    refine if_yes (by kernel_rfl) ?_
    simp [go_sem, h25, h32]
    exact hK.out _ _ (Below.refl _ _) rfl
  · intro A wx hR hout hdep K hK
    have h33 : A.tmps[33]?.getD undef = .bool true := hdep 33 (by kernel_rfl)
    refine if_yes (by kernel_rfl) ?_
    simp [go_sem, h33]
    exact hK.out _ _ (Below.refl _ _) rfl
  · intro A wx hR hout hdep K hK
    have h34 : A.tmps[34]?.getD undef = .bool true := hdep 34 (by kernel_rfl)
    refine if_yes ((wanted_is (j := 17) (b := true) (by kernel_rfl) (by kernel_rfl) h34).trans rfl) ?_
    simp [go_sem, ]
    refine (KA.out wx hR).mono ?_
    rintro e wG ⟨rfl, hbG⟩
    exact hK.out _ _ hbG rfl
  · intro A wx hR hout hdep K hK
    have h34 : A.tmps[34]?.getD undef = .bool true := hdep 34 (by kernel_rfl)
    have h35 : A.tmps[35]?.getD undef = .bool true := hdep 35 (by kernel_rfl)
    refine if_yes (by kernel_rfl) ?_
    simp [go_sem, h34, h35]
    exact hK.out _ _ (Below.refl _ _) rfl
  · intro A wx hR hout hdep K hK
    have h36 : A.tmps[36]?.getD undef = .bool true := hdep 36 (by kernel_rfl)
    refine if_yes (by kernel_rfl) ?_
    simp [go_sem, h36]
    exact hK.out _ _ (Below.refl _ _) rfl
  simp only [putSl, Act.put, List.setIfInBounds_toArray, List.set_cons_zero, List.set_cons_succ, show f 2 = .bool true from hf 2 (by kernel_rfl)]
  have HBE : Hid (Below w.heap.size w wy) := below_tr HB.out (below_tr HB2.out hR)
  go_wp2
  go_ret
  exact ⟨rfl, HBE.out⟩
end Go.Proofs.YtidehnfgiiobcaaDoor
