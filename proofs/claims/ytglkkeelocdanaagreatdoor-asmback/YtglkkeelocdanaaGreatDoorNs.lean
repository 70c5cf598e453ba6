/- What is proved here: a text's instruction: the document's Parse. -/
import Derived.Test.YtglkkeelocdanaaGreatDoorNr
import Derived.Test.YtglkkeelocdanaaGreatDoorEach
import Derived.LoopTactic
namespace Go.Proofs.YtglkkeelocdanaaGreatDoor
open Go.RowKit
set_option linter.unusedVariables false
set_option linter.unusedSimpArgs false
set_option maxRecDepth 100000
theorem name_at (l : L8) : ∀ k, k ≤ l.length → (∀ c ∈ l.take k, (c != 32) = true) → (∀ c ∈ (l.drop k).head?, (c != 32) = false) → nameOf l = l.take k ∧ restL l = l.drop k := by
  have key : ∀ (l : L8) k, k ≤ l.length → (∀ c ∈ l.take k, (c != 32) = true) → (∀ c ∈ (l.drop k).head?, (c != 32) = false) → l.takeWhile (· != 32) = l.take k := by
    intro l
    induction l with
    | nil => intro k hk _ _; simp
    | cons x t ih =>
      intro k hk h1 h2
      cases k with
      | zero =>
        have hx := h2 x (by simp)
        simp only [List.takeWhile_cons, hx]
        rfl
      | succ k =>
        have hx := h1 x (by simp)
        have e1 := ih k (by simpa using hk) (fun c hc => h1 c (by simp [hc])) (fun c hc => h2 c (by simpa using hc))
        simp only [List.takeWhile_cons, hx, if_true, e1, List.take_succ_cons]
  intro k hk h1 h2
  have e := key l k hk h1 h2
  refine ⟨e, ?_⟩
  unfold restL nameOf
  rw [e, List.length_take, Nat.min_eq_left hk]
set_option maxHeartbeats 1000000 in
theorem rparse8 (l : L8) (hn : l.length ≤ 100000) (w : World) : Calls Tryz.prog 8 #[.string ⟨l.toArray⟩] w fun e w' => e = .returned (.tuple #[(parI l).val, .int .i64 (parE l)]) ∧ Below w.heap.size w w' := by
  obtain ⟨post, hpost⟩ : ∃ p : Ending → World → Prop, p = fun e w' => e = .returned (.tuple #[(parI l).val, .int .i64 (parE l)]) ∧ Below w.heap.size w w' := ⟨_, rfl⟩
  rw [← hpost]
  have HPS : Hid (∀ i w', insR l = some i → Below w.heap.size w w' → post (.returned (.tuple #[.agg #[.string i.name, .int .i64 i.rs, .int .i64 i.rt, .int .i64 i.rd, .int .i64 i.sa, .int .u32 (i.imm : Int)], .int .i64 0])) w') := fun i w' h hb => by rw [hpost]; unfold parI parE; rw [h]; exact ⟨rfl, hb⟩
  have HPN : Hid (∀ w', insR l = none → Below w.heap.size w w' → post (.returned (.tuple #[.agg #[.string ⟨#[]⟩, .int .i64 0, .int .i64 0, .int .i64 0, .int .i64 0, .int .u32 0], .int .i64 110])) w') := fun w' h hb => by rw [hpost]; unfold parI parE; rw [h]; exact ⟨rfl, hb⟩
  clear hpost
  obtain ⟨S, hS⟩ : ∃ z : ByteArray, z = ⟨l.toArray⟩ := ⟨_, rfl⟩
  have HSL : Hid (S.toList = l) := by show _ = _; rw [hS]; exact bal l
  have HSZ : Hid (l.length = S.size) := by show _ = _; rw [← HSL.out]; exact bt_len S
  have hSm : S.size ≤ 100000 := by rw [← HSZ.out]; exact hn
  rw [← hS]
  obtain ⟨W1, hW1⟩ : ∃ z, w.alloc (.cells #[.string ⟨#[]⟩, .int .i64 0, .int .i64 0, .int .i64 0, .int .i64 0, .int .u32 0] 24) = z := ⟨_, rfl⟩
  have HW1 : Hid (Below w.heap.size w W1 ∧ In6 zeroI w.heap.size W1 ∧ W1.heap.size = w.heap.size + 1) := by
    rw [← hW1]
    exact ⟨(Below.refl _ _).alloc (Nat.le_refl _) _, In6.new zeroI w, by simp⟩
  clear hS hn
  go_enter Tryz.func8, Tryz.ntmps8
  go_wp2
  go_loopw [4] (fun x wr => ∃ k : Nat, x = .int .i64 (k : Int) ∧ k ≤ S.size ∧ wr = W1 ∧ ∀ c ∈ l.take k, (c != 32) = true) (fun x _ => S.size - (intOf x).toNat)
  case atStart => exact ⟨0, rfl, Nat.zero_le _, rfl, by simp⟩
  case round =>
    obtain ⟨k, rfl, hk, hwr, hall⟩ := hrel
    subst hwr
    have HW : Hid (Below w.heap.size w wr ∧ In6 zeroI w.heap.size wr ∧ wr.heap.size = w.heap.size + 1) := HW1.out
    clear hW1
    have hlz := HSZ.out
    obtain ⟨N, hN⟩ : ∃ z : ByteArray, z = ⟨(l.take k).toArray⟩ := ⟨_, rfl⟩
    obtain ⟨R, hR0⟩ : ∃ z : ByteArray, z = ⟨(l.drop k).toArray⟩ := ⟨_, rfl⟩
    obtain ⟨F, hF⟩ : ∃ z : ByteArray, z = (selA N).form := ⟨_, rfl⟩
    obtain ⟨NL, hNL⟩ : ∃ z, z = numsL R.toList := ⟨_, rfl⟩
    obtain ⟨J, hJ⟩ : ∃ z, z = madeI N (formL8 N) (NL.getD 0 0) (NL.getD 1 0) (NL.getD 2 0) (NL.getD 3 0) := ⟨_, rfl⟩
    obtain ⟨LJ, hLJ⟩ : ∃ z : ByteArray, z = ⟨(lineL J).toArray⟩ := ⟨_, rfl⟩
    by_cases hlt : k < S.size
    · have hll : k < l.length := by omega
      obtain ⟨c, hc⟩ : ∃ c, c = l[k] := ⟨_, rfl⟩
      have hix : S[k] = c := by
        have h := bt_get S k hlt (by rw [HSL.out]; exact hll)
        rw [h, hc]
        simp only [HSL.out]
      have hdr := drop_cons l k hll
      rw [← hc] at hdr
      obtain ⟨cn, hcn⟩ : ∃ z : Nat, z = c.toNat := ⟨_, rfl⟩
      have hix2 : S[k].toNat = cn := by rw [hix, hcn]
      have hik : (k : Int) < (S.size : Int) := by omega
      have e32 : (c != 32) = ((cn : Int) != 32) := by
        rw [hcn, Bool.eq_iff_iff]
        simp
        constructor
        · intro h e; exact h (UInt8.toNat_inj.1 (by show c.toNat = 32; omega))
        · intro h e; apply h; rw [e]; rfl
      cases h32 : (c != 32) with
      | true =>
        have HA : Hid (∀ d ∈ l.take (k + 1), (d != 32) = true) := fun d hd => by
          rw [List.take_succ_eq_append_getElem hll, List.mem_append] at hd
          rcases hd with hd | hd
          · exact hall d hd
          · rw [show d = c by rw [hc]; simpa using hd]; exact h32
        rw [h32] at e32
        have e33 := e32.symm
        clear e32 h32 hc hix hdr hcn hall hN hR0 hF hNL hJ hLJ
        go_wp2
        go_roundw
        case rel => exact ⟨k + 1, by simp, by omega, by first | rfl | trivial, HA.out⟩
        case measure => simp [intOf]; omega
      | false =>
        have hnm := name_at l k (by omega) hall (by rw [hdr]; intro d hd; rw [show d = c by simpa using hd.symm]; exact h32)
        rw [h32] at e32
        have e33 := e32.symm
        clear e32 h32 hc hix hdr hcn
        have hx : S.extract 0 k = N := by rw [hN, ext_list, HSL.out, List.drop_zero]
        have hy : S.extract k S.size = R := by rw [hR0, ext_list, HSL.out, ← HSZ.out, List.take_length]
        have hsl : ∀ wx, (Instr.slice 9 (.string S) (some (.int .i64 (k : Int))) none none).run Tryz.prog wx = .ok (.string R) wx := fun wx => by
          rw [run_slice_string_from_if wx 9 S .i64 (k : Int) Tryz.underlying9, ← hy]
          simp
          omega
        have HNM : Hid (nameOf l = l.take k ∧ restL l = l.drop k) := hnm
        have K19 : Hid (∀ w', Calls Tryz.prog 19 #[.string N] w' fun e w'' => e = .returned (.string F) ∧ Below w'.heap.size w' w'') := fun w' => by rw [hF]; exact form14 N w'
        have K20 : Hid (∀ w', Calls Tryz.prog 20 #[.string R] w' fun e w'' => (∃ v, e = .returned v ∧ Ints w'' v NL) ∧ Below w'.heap.size w' w'') := fun w' => by
          have := numbers20 R (by rw [hR0]; show Array.size _ ≤ _; have := HSZ.out; simp; omega) w'
          rw [hNL]; exact this
        have hJ0 : J = docI l := by rw [hJ]; unfold docI; rw [hnm.1, hnm.2, ← hN, hNL, hR0, bal]
        have K18 : Hid (∀ v w', Ints w' v NL → Calls Tryz.prog 18 #[.string N, .string F, v] w' fun e w'' => e = .returned (.agg #[.string J.name, .int .i64 J.rs, .int .i64 J.rt, .int .i64 J.rd, .int .i64 J.sa, .int .u32 (J.imm : Int)]) ∧ Below w'.heap.size w' w'') := fun v w' h => by rw [hF, hJ]; exact made18 N v NL w' h
        have hJm : J.imm < 4294967296 := by rw [hJ0]; exact doc_imm l
        have K10 : Hid (∀ w', Calls Tryz.prog 10 #[.agg #[.string J.name, .int .i64 J.rs, .int .i64 J.rt, .int .i64 J.rd, .int .i64 J.sa, .int .u32 (J.imm : Int)]] w' fun e w'' => e = .returned (.string LJ) ∧ Below w'.heap.size w' w'') := fun w' => by rw [hLJ]; exact rline10 J hJm w'
        have HDOC : Hid (insR l = if F.toList = [] then none else if LJ = S then some J else none) := by
          show _ = _
          have e1 : formL8 ⟨(nameOf l).toArray⟩ = F.toList := by rw [hF, ← form_eq, hN, ← hnm.1]; rfl
          have e2 : (LJ = S) = (lineL J = l) := by
            apply propext
            rw [hLJ]
            constructor
            · intro h
              have := congrArg ByteArray.toList h
              rw [bal, HSL.out] at this
              exact this
            · intro h
              rw [h, ← HSL.out, ba_list]
          rw [doc_is, e1, ← hJ0]
          simp only [e2]
        clear hN hR0 hF hNL hJ hJ0 hLJ hJm hnm hall
        go_wp2
        refine wp_region_slots_last (R := Ext) [⟨22, fun v _ => v = .string N, fun _ _ _ _ h => h⟩, ⟨23, fun v _ => v = .string N, fun _ _ _ _ h => h⟩, ⟨24, fun v _ => v = .string F, fun _ _ _ _ h => h⟩, ⟨25, fun v _ => v = .string S, fun _ _ _ _ h => h⟩, ⟨26, fun v _ => v = .int .i64 (k : Int), fun _ _ _ _ h => h⟩, ⟨27, fun v _ => v = .string R, fun _ _ _ _ h => h⟩, ⟨28, fun v W => Ints W v NL, fun v A C hb h => h.keep hb⟩, ⟨29, fun v _ => v = .agg #[.string J.name, .int .i64 J.rs, .int .i64 J.rt, .int .i64 J.rd, .int .i64 J.sa, .int .u32 (J.imm : Int)], fun _ _ _ _ h => h⟩, ⟨6, fun v W => ∃ b, v = .pointer (some ⟨b, 0, none⟩) ∧ In6 zeroI b W ∧ wr.heap.size ≤ b, fun v A C hb h => by obtain ⟨b, h1, h2, h3⟩ := h; exact ⟨b, h1, h2.keep hb, h3⟩⟩] _ 9 _ (by kernel_rfl) rfl (by kernel_rfl) rfl rfl rfl rfl (by kernel_rfl) (Below.drew (Below.refl _ _)) (fun _ _ _ h1 h2 => below_tr h1 h2) (fun QQ => ⟨?_, ?_, ?_, ?_, ?_, ?_, ?_, ?_, ?_, trivial⟩) (fun f wy hR hf A hA K hK => ?_)
        · intro A wx hR hout hdep K hK
          have h5 : A.tmps[5]?.getD undef = .string N := hout 5 (by kernel_rfl)
          refine if_yes (by kernel_rfl) ?_
          simp [go_sem, h5, hx, hy, hsl]
          exact hK.out _ _ (Below.refl _ _) rfl
        · intro A wx hR hout hdep K hK
          have h5 : A.tmps[5]?.getD undef = .string N := hout 5 (by kernel_rfl)
          refine if_yes (by kernel_rfl) ?_
          simp [go_sem, h5, hx, hy, hsl]
          exact hK.out _ _ (Below.refl _ _) rfl
        · intro A wx hR hout hdep K hK
          have h23 : A.tmps[23]?.getD undef = .string N := hdep 23 (by kernel_rfl)
          refine if_yes (by kernel_rfl) ?_
          simp [go_sem, h23, hx, hy, hsl]
          refine (K19.out wx).mono ?_
          rintro e wG ⟨rfl, hbG⟩
          exact hK.out _ _ hbG rfl
        · intro A wx hR hout hdep K hK
          have h0 : A.tmps[0]?.getD undef = .string S := hout 0 (by kernel_rfl)
          refine if_yes (by kernel_rfl) ?_
          simp [go_sem, h0, hx, hy, hsl]
          exact hK.out _ _ (Below.refl _ _) rfl
        · intro A wx hR hout hdep K hK
          have h4 : A.tmps[4]?.getD undef = .int .i64 (k : Int) := hout 4 (by kernel_rfl)
          refine if_yes (by kernel_rfl) ?_
          simp [go_sem, h4, hx, hy, hsl]
          exact hK.out _ _ (Below.refl _ _) rfl
        · intro A wx hR hout hdep K hK
          have h25 : A.tmps[25]?.getD undef = .string S := hdep 25 (by kernel_rfl)
          have h26 : A.tmps[26]?.getD undef = .int .i64 (k : Int) := hdep 26 (by kernel_rfl)
          refine if_yes (by kernel_rfl) ?_
          simp [go_sem, h25, h26, hx, hy, hsl]
          exact hK.out _ _ (Below.refl _ _) rfl
        · intro A wx hR hout hdep K hK
          have h27 : A.tmps[27]?.getD undef = .string R := hdep 27 (by kernel_rfl)
          refine if_yes (by kernel_rfl) ?_
          simp [go_sem, h27, hx, hy, hsl]
          refine (K20.out wx).mono ?_
          rintro e wG ⟨⟨v, rfl, hv⟩, hbG⟩
          exact hK.out _ _ hbG hv
        · intro A wx hR hout hdep K hK
          have h22 : A.tmps[22]?.getD undef = .string N := hdep 22 (by kernel_rfl)
          have h24 : A.tmps[24]?.getD undef = .string F := hdep 24 (by kernel_rfl)
          have h28 := hdep 28 (by kernel_rfl)
          refine if_yes (by kernel_rfl) ?_
          have h28' : Ints wx (A.tmps[28]?.getD undef) NL := h28
          generalize hv28 : A.tmps[28]?.getD undef = v28 at h28'
          simp [go_sem, h22, h24, hv28]
          refine (K18.out v28 wx h28').mono ?_
          rintro e wG ⟨rfl, hbG⟩
          exact hK.out _ _ hbG rfl
        · intro A wx hR hout hdep K hK
          refine if_yes (by kernel_rfl) ?_
          simp [go_sem]
          exact hK.out _ _ ((Below.refl _ _).alloc (Nat.le_refl _) _) ⟨_, rfl, In6.new zeroI wx, hR.size⟩
        obtain ⟨b, hv6, i6, hbl⟩ : ∃ b, f 6 = .pointer (some ⟨b, 0, none⟩) ∧ In6 zeroI b wy ∧ wr.heap.size ≤ b := hf 6 (by kernel_rfl)
        have hv29 : f 29 = .agg #[.string J.name, .int .i64 J.rs, .int .i64 J.rt, .int .i64 J.rd, .int .i64 J.sa, .int .u32 (J.imm : Int)] := hf 29 (by kernel_rfl)
        simp only [putSl, List.take_succ_cons, List.take_zero, Act.put, List.setIfInBounds_toArray, List.set_cons_zero, List.set_cons_succ, hv6, hv29] at hA
        subst hA
        obtain ⟨q0, q1, q2, q3, q4, q5⟩ := i6.cells
        have z0 := i6.frozen 0
        have z1 := i6.frozen 1
        have z2 := i6.frozen 2
        have z3 := i6.frozen 3
        have z4 := i6.frozen 4
        have z5 := i6.frozen 5
        obtain ⟨w5, hw5⟩ : ∃ z, (((((wy.setCell ⟨b, 0, none⟩ (.string J.name)).setCell ⟨b, 1, none⟩ (.int .i64 J.rs)).setCell ⟨b, 2, none⟩ (.int .i64 J.rt)).setCell ⟨b, 3, none⟩ (.int .i64 J.rd)).setCell ⟨b, 4, none⟩ (.int .i64 J.sa)).setCell ⟨b, 5, none⟩ (.int .u32 (J.imm : Int)) = z := ⟨_, rfl⟩
        have g5 := st6_grown wy b J
        rw [show st6 wy b J = w5 from hw5] at g5
        have j5 := st6_in i6 J
        rw [show st6 wy b J = w5 from hw5] at j5
        have HW5 : Hid (Below w.heap.size w w5 ∧ In6 zeroI w.heap.size w5 ∧ In6 J b w5) := by
          have h1 := HW.out
          have h2 := below_tr h1.1 hR
          have h3 := h1.2.1.lt
          exact ⟨h2.grown g5 h2.size (fun r e => by injection e with e; omega), (h1.2.1.keep hR).row g5 (by intro e; injection e with e; omega), j5⟩
        simp [go_sem, q0, q1, q2, q3, q4, q5, z0, z1, z2, z3, z4, z5, hw5]
        refine hK.out _ _ ?_
        clear hf hv6 hv29 i6 q0 q1 q2 q3 q4 q5 z0 z1 z2 z3 z4 z5 hw5 g5 j5 hR hbl hK K18 K20
        have KF := K19.out w5
        obtain ⟨d0, d1, d2, d3, d4, d5⟩ := HW5.out.2.2.cells
        by_cases hfe : F.toList = []
        · have HR0 : Hid (insR l = none) := by show _ = _; rw [HDOC.out, if_pos hfe]
          have hfb : F.toList.isEmpty = true := by rw [hfe]; rfl
          have hfb2 : (F.toList == []) = true := by rw [hfe]; rfl
          clear hfe
          go_wp2_with fail
          refine KF.mono ?_
          rintro e w6 ⟨rfl, hb6⟩
          have zz := HW5.out.2.1.keep hb6
          have HBZ : Hid (Below w.heap.size w w6) := below_tr HW5.out.1 hb6
          clear KF hb6 d0 d1 d2 d3 d4 d5
          obtain ⟨q0, q1, q2, q3, q4, q5⟩ := zz.cells
          have f0 := zz.frozen 0
          have f1 := zz.frozen 1
          have f2 := zz.frozen 2
          have f3 := zz.frozen 3
          have f4 := zz.frozen 4
          have f5 := zz.frozen 5
          obtain ⟨W9, hW9⟩ : ∃ z, (((((w6.setCell ⟨w.heap.size, 0, none⟩ (.string ⟨#[]⟩)).setCell ⟨w.heap.size, 1, none⟩ (.int .i64 0)).setCell ⟨w.heap.size, 2, none⟩ (.int .i64 0)).setCell ⟨w.heap.size, 3, none⟩ (.int .i64 0)).setCell ⟨w.heap.size, 4, none⟩ (.int .i64 0)).setCell ⟨w.heap.size, 5, none⟩ (.int .u32 0) = z := ⟨_, rfl⟩
          have g9 := st6_grown w6 w.heap.size zeroI
          rw [show st6 w6 w.heap.size zeroI = W9 from hW9] at g9
          have i9 := st6_in zz zeroI
          rw [show st6 w6 w.heap.size zeroI = W9 from hW9] at i9
          obtain ⟨s0, s1, s2, s3, s4, s5⟩ := i9.cells
          have HB9 : Hid (Below w.heap.size w W9) := HBZ.out.grown g9 HBZ.out.size (fun k e => by injection e with e; omega)
          clear zz g9 i9
          have s0 : W9.cell? ⟨w.heap.size, 0, none⟩ = some (.string ⟨#[]⟩) := s0
          have s1 : W9.cell? ⟨w.heap.size, 1, none⟩ = some (.int .i64 0) := s1
          have s2 : W9.cell? ⟨w.heap.size, 2, none⟩ = some (.int .i64 0) := s2
          have s3 : W9.cell? ⟨w.heap.size, 3, none⟩ = some (.int .i64 0) := s3
          have s4 : W9.cell? ⟨w.heap.size, 4, none⟩ = some (.int .i64 0) := s4
          have s5 : W9.cell? ⟨w.heap.size, 5, none⟩ = some (.int .u32 0) := s5
          go_wp2
          have HP9 := HPN.out W9 HR0.out HB9.out
          refine bodyPost_ret (v := .tuple #[.agg #[.string ⟨#[]⟩, .int .i64 0, .int .i64 0, .int .i64 0, .int .i64 0, .int .u32 0], .int .i64 110]) ?_ rfl HP9
          rw [results_cell_tmp rfl]; simp [go_sem, s0, s1, s2, s3, s4, s5]
        · have hfb : F.toList.isEmpty = false := by cases hh : F.toList with
            | nil => exact absurd hh hfe
            | cons => rfl
          have hfb2 : (F.toList == []) = false := by simpa using hfe
          go_wp2_with fail
          refine KF.mono ?_
          rintro e w6 ⟨rfl, hb6⟩
          have d0 := keep_cell hb6 d0
          have d1 := keep_cell hb6 d1
          have d2 := keep_cell hb6 d2
          have d3 := keep_cell hb6 d3
          have d4 := keep_cell hb6 d4
          have d5 := keep_cell hb6 d5
          have KL := K10.out w6
          have z6 := HW5.out.2.1.keep hb6
          have HB6 : Hid (Below w.heap.size w w6 ∧ In6 zeroI w.heap.size w6) := ⟨below_tr HW5.out.1 hb6, z6⟩
          clear KF hb6 z6
          go_wp2_with fail
          refine KL.mono ?_
          rintro e w7 ⟨rfl, hb7⟩
          have d0 := keep_cell hb7 d0
          have d1 := keep_cell hb7 d1
          have d2 := keep_cell hb7 d2
          have d3 := keep_cell hb7 d3
          have d4 := keep_cell hb7 d4
          have d5 := keep_cell hb7 d5
          have zz := HB6.out.2.keep hb7
          have HBZ : Hid (Below w.heap.size w w7) := below_tr HB6.out.1 hb7
          clear KL hb7
          by_cases hlj : LJ = S
          · have HR0 : Hid (insR l = some J) := by show _ = _; rw [HDOC.out, if_neg hfe, if_pos hlj]
            have hcb : (LJ.toList == S.toList) = true := by rw [hlj]; simp
            have hcc : (LJ.toList != S.toList) = false := by rw [hlj]; simp
            clear hlj hfe
            obtain ⟨q0, q1, q2, q3, q4, q5⟩ := zz.cells
            have f0 := zz.frozen 0
            have f1 := zz.frozen 1
            have f2 := zz.frozen 2
            have f3 := zz.frozen 3
            have f4 := zz.frozen 4
            have f5 := zz.frozen 5
            obtain ⟨W9, hW9⟩ : ∃ z, (((((w7.setCell ⟨w.heap.size, 0, none⟩ (.string J.name)).setCell ⟨w.heap.size, 1, none⟩ (.int .i64 J.rs)).setCell ⟨w.heap.size, 2, none⟩ (.int .i64 J.rt)).setCell ⟨w.heap.size, 3, none⟩ (.int .i64 J.rd)).setCell ⟨w.heap.size, 4, none⟩ (.int .i64 J.sa)).setCell ⟨w.heap.size, 5, none⟩ (.int .u32 (J.imm : Int)) = z := ⟨_, rfl⟩
            have g9 := st6_grown w7 w.heap.size J
            rw [show st6 w7 w.heap.size J = W9 from hW9] at g9
            have i9 := st6_in zz J
            rw [show st6 w7 w.heap.size J = W9 from hW9] at i9
            obtain ⟨s0, s1, s2, s3, s4, s5⟩ := i9.cells
            have HB9 : Hid (Below w.heap.size w W9) := HBZ.out.grown g9 HBZ.out.size (fun k e => by injection e with e; omega)
            clear zz g9 i9
            go_wp2
            have HP9 := HPS.out J W9 HR0.out HB9.out
            refine bodyPost_ret (v := .tuple #[.agg #[.string J.name, .int .i64 J.rs, .int .i64 J.rt, .int .i64 J.rd, .int .i64 J.sa, .int .u32 (J.imm : Int)], .int .i64 0]) ?_ rfl HP9
            rw [results_cell_tmp rfl]; simp [go_sem, s0, s1, s2, s3, s4, s5]
          · have HR0 : Hid (insR l = none) := by show _ = _; rw [HDOC.out, if_neg hfe, if_neg hlj]
            have hcb : (LJ.toList == S.toList) = false := by
              cases hh : (LJ.toList == S.toList) with
              | false => rfl
              | true => exact absurd (toList_inj (by simpa using hh)) hlj
            have hcc : (LJ.toList != S.toList) = true := by rw [bne, hcb]; rfl
            clear hlj hfe
            obtain ⟨q0, q1, q2, q3, q4, q5⟩ := zz.cells
            have f0 := zz.frozen 0
            have f1 := zz.frozen 1
            have f2 := zz.frozen 2
            have f3 := zz.frozen 3
            have f4 := zz.frozen 4
            have f5 := zz.frozen 5
            obtain ⟨W9, hW9⟩ : ∃ z, (((((w7.setCell ⟨w.heap.size, 0, none⟩ (.string ⟨#[]⟩)).setCell ⟨w.heap.size, 1, none⟩ (.int .i64 0)).setCell ⟨w.heap.size, 2, none⟩ (.int .i64 0)).setCell ⟨w.heap.size, 3, none⟩ (.int .i64 0)).setCell ⟨w.heap.size, 4, none⟩ (.int .i64 0)).setCell ⟨w.heap.size, 5, none⟩ (.int .u32 0) = z := ⟨_, rfl⟩
            have g9 := st6_grown w7 w.heap.size zeroI
            rw [show st6 w7 w.heap.size zeroI = W9 from hW9] at g9
            have i9 := st6_in zz zeroI
            rw [show st6 w7 w.heap.size zeroI = W9 from hW9] at i9
            obtain ⟨s0, s1, s2, s3, s4, s5⟩ := i9.cells
            have HB9 : Hid (Below w.heap.size w W9) := HBZ.out.grown g9 HBZ.out.size (fun k e => by injection e with e; omega)
            clear zz g9 i9
            have s0 : W9.cell? ⟨w.heap.size, 0, none⟩ = some (.string ⟨#[]⟩) := s0
            have s1 : W9.cell? ⟨w.heap.size, 1, none⟩ = some (.int .i64 0) := s1
            have s2 : W9.cell? ⟨w.heap.size, 2, none⟩ = some (.int .i64 0) := s2
            have s3 : W9.cell? ⟨w.heap.size, 3, none⟩ = some (.int .i64 0) := s3
            have s4 : W9.cell? ⟨w.heap.size, 4, none⟩ = some (.int .i64 0) := s4
            have s5 : W9.cell? ⟨w.heap.size, 5, none⟩ = some (.int .u32 0) := s5
            go_wp2
            have HP9 := HPN.out W9 HR0.out HB9.out
            refine bodyPost_ret (v := .tuple #[.agg #[.string ⟨#[]⟩, .int .i64 0, .int .i64 0, .int .i64 0, .int .i64 0, .int .u32 0], .int .i64 110]) ?_ rfl HP9
            rw [results_cell_tmp rfl]; simp [go_sem, s0, s1, s2, s3, s4, s5]
    · have hik : ¬ (k : Int) < (S.size : Int) := by omega
      have hik2 : decide ((k : Int) < (S.size : Int)) = false := decide_eq_false hik
      have hnm := name_at l k (by omega) hall (by rw [List.drop_eq_nil_of_le (by omega)]; intro d hd; simp at hd)
      have hx : S.extract 0 k = N := by rw [hN, ext_list, HSL.out, List.drop_zero]
      have hy : S.extract k S.size = R := by rw [hR0, ext_list, HSL.out, ← HSZ.out, List.take_length]
      have hsl : ∀ wx, (Instr.slice 9 (.string S) (some (.int .i64 (k : Int))) none none).run Tryz.prog wx = .ok (.string R) wx := fun wx => by
        rw [run_slice_string_from_if wx 9 S .i64 (k : Int) Tryz.underlying9, ← hy]
        simp
        omega
      have HNM : Hid (nameOf l = l.take k ∧ restL l = l.drop k) := hnm
      have K19 : Hid (∀ w', Calls Tryz.prog 19 #[.string N] w' fun e w'' => e = .returned (.string F) ∧ Below w'.heap.size w' w'') := fun w' => by rw [hF]; exact form14 N w'
      have K20 : Hid (∀ w', Calls Tryz.prog 20 #[.string R] w' fun e w'' => (∃ v, e = .returned v ∧ Ints w'' v NL) ∧ Below w'.heap.size w' w'') := fun w' => by
        have := numbers20 R (by rw [hR0]; show Array.size _ ≤ _; have := HSZ.out; simp; omega) w'
        rw [hNL]; exact this
      have hJ0 : J = docI l := by rw [hJ]; unfold docI; rw [hnm.1, hnm.2, ← hN, hNL, hR0, bal]
      have K18 : Hid (∀ v w', Ints w' v NL → Calls Tryz.prog 18 #[.string N, .string F, v] w' fun e w'' => e = .returned (.agg #[.string J.name, .int .i64 J.rs, .int .i64 J.rt, .int .i64 J.rd, .int .i64 J.sa, .int .u32 (J.imm : Int)]) ∧ Below w'.heap.size w' w'') := fun v w' h => by rw [hF, hJ]; exact made18 N v NL w' h
      have hJm : J.imm < 4294967296 := by rw [hJ0]; exact doc_imm l
      have K10 : Hid (∀ w', Calls Tryz.prog 10 #[.agg #[.string J.name, .int .i64 J.rs, .int .i64 J.rt, .int .i64 J.rd, .int .i64 J.sa, .int .u32 (J.imm : Int)]] w' fun e w'' => e = .returned (.string LJ) ∧ Below w'.heap.size w' w'') := fun w' => by rw [hLJ]; exact rline10 J hJm w'
      have HDOC : Hid (insR l = if F.toList = [] then none else if LJ = S then some J else none) := by
        show _ = _
        have e1 : formL8 ⟨(nameOf l).toArray⟩ = F.toList := by rw [hF, ← form_eq, hN, ← hnm.1]; rfl
        have e2 : (LJ = S) = (lineL J = l) := by
          apply propext
          rw [hLJ]
          constructor
          · intro h
            have := congrArg ByteArray.toList h
            rw [bal, HSL.out] at this
            exact this
          · intro h
            rw [h, ← HSL.out, ba_list]
        rw [doc_is, e1, ← hJ0]
        simp only [e2]
      clear hN hR0 hF hNL hJ hJ0 hLJ hJm hnm hall
      go_wp2
      refine wp_region_slots_last (R := Ext) [⟨22, fun v _ => v = .string N, fun _ _ _ _ h => h⟩, ⟨23, fun v _ => v = .string N, fun _ _ _ _ h => h⟩, ⟨24, fun v _ => v = .string F, fun _ _ _ _ h => h⟩, ⟨25, fun v _ => v = .string S, fun _ _ _ _ h => h⟩, ⟨26, fun v _ => v = .int .i64 (k : Int), fun _ _ _ _ h => h⟩, ⟨27, fun v _ => v = .string R, fun _ _ _ _ h => h⟩, ⟨28, fun v W => Ints W v NL, fun v A C hb h => h.keep hb⟩, ⟨29, fun v _ => v = .agg #[.string J.name, .int .i64 J.rs, .int .i64 J.rt, .int .i64 J.rd, .int .i64 J.sa, .int .u32 (J.imm : Int)], fun _ _ _ _ h => h⟩, ⟨6, fun v W => ∃ b, v = .pointer (some ⟨b, 0, none⟩) ∧ In6 zeroI b W ∧ wr.heap.size ≤ b, fun v A C hb h => by obtain ⟨b, h1, h2, h3⟩ := h; exact ⟨b, h1, h2.keep hb, h3⟩⟩] _ 9 _ (by kernel_rfl) rfl (by kernel_rfl) rfl rfl rfl rfl (by kernel_rfl) (Below.drew (Below.refl _ _)) (fun _ _ _ h1 h2 => below_tr h1 h2) (fun QQ => ⟨?_, ?_, ?_, ?_, ?_, ?_, ?_, ?_, ?_, trivial⟩) (fun f wy hR hf A hA K hK => ?_)
      · intro A wx hR hout hdep K hK
        have h5 : A.tmps[5]?.getD undef = .string N := hout 5 (by kernel_rfl)
        refine if_yes (by kernel_rfl) ?_
        simp [go_sem, h5, hx, hy, hsl]
        exact hK.out _ _ (Below.refl _ _) rfl
      · intro A wx hR hout hdep K hK
        have h5 : A.tmps[5]?.getD undef = .string N := hout 5 (by kernel_rfl)
        refine if_yes (by kernel_rfl) ?_
        simp [go_sem, h5, hx, hy, hsl]
        exact hK.out _ _ (Below.refl _ _) rfl
      · intro A wx hR hout hdep K hK
        have h23 : A.tmps[23]?.getD undef = .string N := hdep 23 (by kernel_rfl)
        refine if_yes (by kernel_rfl) ?_
        simp [go_sem, h23, hx, hy, hsl]
        refine (K19.out wx).mono ?_
        rintro e wG ⟨rfl, hbG⟩
        exact hK.out _ _ hbG rfl
      · intro A wx hR hout hdep K hK
        have h0 : A.tmps[0]?.getD undef = .string S := hout 0 (by kernel_rfl)
        refine if_yes (by kernel_rfl) ?_
        simp [go_sem, h0, hx, hy, hsl]
        exact hK.out _ _ (Below.refl _ _) rfl
      · intro A wx hR hout hdep K hK
        have h4 : A.tmps[4]?.getD undef = .int .i64 (k : Int) := hout 4 (by kernel_rfl)
        refine if_yes (by kernel_rfl) ?_
        simp [go_sem, h4, hx, hy, hsl]
        exact hK.out _ _ (Below.refl _ _) rfl
      · intro A wx hR hout hdep K hK
        have h25 : A.tmps[25]?.getD undef = .string S := hdep 25 (by kernel_rfl)
        have h26 : A.tmps[26]?.getD undef = .int .i64 (k : Int) := hdep 26 (by kernel_rfl)
        refine if_yes (by kernel_rfl) ?_
        simp [go_sem, h25, h26, hx, hy, hsl]
        exact hK.out _ _ (Below.refl _ _) rfl
      · intro A wx hR hout hdep K hK
        have h27 : A.tmps[27]?.getD undef = .string R := hdep 27 (by kernel_rfl)
        refine if_yes (by kernel_rfl) ?_
        simp [go_sem, h27, hx, hy, hsl]
        refine (K20.out wx).mono ?_
        rintro e wG ⟨⟨v, rfl, hv⟩, hbG⟩
        exact hK.out _ _ hbG hv
      · intro A wx hR hout hdep K hK
        have h22 : A.tmps[22]?.getD undef = .string N := hdep 22 (by kernel_rfl)
        have h24 : A.tmps[24]?.getD undef = .string F := hdep 24 (by kernel_rfl)
        have h28 := hdep 28 (by kernel_rfl)
        refine if_yes (by kernel_rfl) ?_
        have h28' : Ints wx (A.tmps[28]?.getD undef) NL := h28
        generalize hv28 : A.tmps[28]?.getD undef = v28 at h28'
        simp [go_sem, h22, h24, hv28]
        refine (K18.out v28 wx h28').mono ?_
        rintro e wG ⟨rfl, hbG⟩
        exact hK.out _ _ hbG rfl
      · intro A wx hR hout hdep K hK
        refine if_yes (by kernel_rfl) ?_
        simp [go_sem]
        exact hK.out _ _ ((Below.refl _ _).alloc (Nat.le_refl _) _) ⟨_, rfl, In6.new zeroI wx, hR.size⟩
      obtain ⟨b, hv6, i6, hbl⟩ : ∃ b, f 6 = .pointer (some ⟨b, 0, none⟩) ∧ In6 zeroI b wy ∧ wr.heap.size ≤ b := hf 6 (by kernel_rfl)
      have hv29 : f 29 = .agg #[.string J.name, .int .i64 J.rs, .int .i64 J.rt, .int .i64 J.rd, .int .i64 J.sa, .int .u32 (J.imm : Int)] := hf 29 (by kernel_rfl)
      simp only [putSl, List.take_succ_cons, List.take_zero, Act.put, List.setIfInBounds_toArray, List.set_cons_zero, List.set_cons_succ, hv6, hv29] at hA
      subst hA
      obtain ⟨q0, q1, q2, q3, q4, q5⟩ := i6.cells
      have z0 := i6.frozen 0
      have z1 := i6.frozen 1
      have z2 := i6.frozen 2
      have z3 := i6.frozen 3
      have z4 := i6.frozen 4
      have z5 := i6.frozen 5
      obtain ⟨w5, hw5⟩ : ∃ z, (((((wy.setCell ⟨b, 0, none⟩ (.string J.name)).setCell ⟨b, 1, none⟩ (.int .i64 J.rs)).setCell ⟨b, 2, none⟩ (.int .i64 J.rt)).setCell ⟨b, 3, none⟩ (.int .i64 J.rd)).setCell ⟨b, 4, none⟩ (.int .i64 J.sa)).setCell ⟨b, 5, none⟩ (.int .u32 (J.imm : Int)) = z := ⟨_, rfl⟩
      have g5 := st6_grown wy b J
      rw [show st6 wy b J = w5 from hw5] at g5
      have j5 := st6_in i6 J
      rw [show st6 wy b J = w5 from hw5] at j5
      have HW5 : Hid (Below w.heap.size w w5 ∧ In6 zeroI w.heap.size w5 ∧ In6 J b w5) := by
        have h1 := HW.out
        have h2 := below_tr h1.1 hR
        have h3 := h1.2.1.lt
        exact ⟨h2.grown g5 h2.size (fun r e => by injection e with e; omega), (h1.2.1.keep hR).row g5 (by intro e; injection e with e; omega), j5⟩
      simp [go_sem, q0, q1, q2, q3, q4, q5, z0, z1, z2, z3, z4, z5, hw5]
      refine hK.out _ _ ?_
      clear hf hv6 hv29 i6 q0 q1 q2 q3 q4 q5 z0 z1 z2 z3 z4 z5 hw5 g5 j5 hR hbl hK K18 K20
      have KF := K19.out w5
      obtain ⟨d0, d1, d2, d3, d4, d5⟩ := HW5.out.2.2.cells
      by_cases hfe : F.toList = []
      · have HR0 : Hid (insR l = none) := by show _ = _; rw [HDOC.out, if_pos hfe]
        have hfb : F.toList.isEmpty = true := by rw [hfe]; rfl
        have hfb2 : (F.toList == []) = true := by rw [hfe]; rfl
        clear hfe
        go_wp2_with fail
        refine KF.mono ?_
        rintro e w6 ⟨rfl, hb6⟩
        have zz := HW5.out.2.1.keep hb6
        have HBZ : Hid (Below w.heap.size w w6) := below_tr HW5.out.1 hb6
        clear KF hb6 d0 d1 d2 d3 d4 d5
        obtain ⟨q0, q1, q2, q3, q4, q5⟩ := zz.cells
        have f0 := zz.frozen 0
        have f1 := zz.frozen 1
        have f2 := zz.frozen 2
        have f3 := zz.frozen 3
        have f4 := zz.frozen 4
        have f5 := zz.frozen 5
        obtain ⟨W9, hW9⟩ : ∃ z, (((((w6.setCell ⟨w.heap.size, 0, none⟩ (.string ⟨#[]⟩)).setCell ⟨w.heap.size, 1, none⟩ (.int .i64 0)).setCell ⟨w.heap.size, 2, none⟩ (.int .i64 0)).setCell ⟨w.heap.size, 3, none⟩ (.int .i64 0)).setCell ⟨w.heap.size, 4, none⟩ (.int .i64 0)).setCell ⟨w.heap.size, 5, none⟩ (.int .u32 0) = z := ⟨_, rfl⟩
        have g9 := st6_grown w6 w.heap.size zeroI
        rw [show st6 w6 w.heap.size zeroI = W9 from hW9] at g9
        have i9 := st6_in zz zeroI
        rw [show st6 w6 w.heap.size zeroI = W9 from hW9] at i9
        obtain ⟨s0, s1, s2, s3, s4, s5⟩ := i9.cells
        have HB9 : Hid (Below w.heap.size w W9) := HBZ.out.grown g9 HBZ.out.size (fun k e => by injection e with e; omega)
        clear zz g9 i9
        have s0 : W9.cell? ⟨w.heap.size, 0, none⟩ = some (.string ⟨#[]⟩) := s0
        have s1 : W9.cell? ⟨w.heap.size, 1, none⟩ = some (.int .i64 0) := s1
        have s2 : W9.cell? ⟨w.heap.size, 2, none⟩ = some (.int .i64 0) := s2
        have s3 : W9.cell? ⟨w.heap.size, 3, none⟩ = some (.int .i64 0) := s3
        have s4 : W9.cell? ⟨w.heap.size, 4, none⟩ = some (.int .i64 0) := s4
        have s5 : W9.cell? ⟨w.heap.size, 5, none⟩ = some (.int .u32 0) := s5
        go_wp2
        have HP9 := HPN.out W9 HR0.out HB9.out
        refine bodyPost_ret (v := .tuple #[.agg #[.string ⟨#[]⟩, .int .i64 0, .int .i64 0, .int .i64 0, .int .i64 0, .int .u32 0], .int .i64 110]) ?_ rfl HP9
        rw [results_cell_tmp rfl]; simp [go_sem, s0, s1, s2, s3, s4, s5]
      · have hfb : F.toList.isEmpty = false := by cases hh : F.toList with
          | nil => exact absurd hh hfe
          | cons => rfl
        have hfb2 : (F.toList == []) = false := by simpa using hfe
        go_wp2_with fail
        refine KF.mono ?_
        rintro e w6 ⟨rfl, hb6⟩
        have d0 := keep_cell hb6 d0
        have d1 := keep_cell hb6 d1
        have d2 := keep_cell hb6 d2
        have d3 := keep_cell hb6 d3
        have d4 := keep_cell hb6 d4
        have d5 := keep_cell hb6 d5
        have KL := K10.out w6
        have z6 := HW5.out.2.1.keep hb6
        have HB6 : Hid (Below w.heap.size w w6 ∧ In6 zeroI w.heap.size w6) := ⟨below_tr HW5.out.1 hb6, z6⟩
        clear KF hb6 z6
        go_wp2_with fail
        refine KL.mono ?_
        rintro e w7 ⟨rfl, hb7⟩
        have d0 := keep_cell hb7 d0
        have d1 := keep_cell hb7 d1
        have d2 := keep_cell hb7 d2
        have d3 := keep_cell hb7 d3
        have d4 := keep_cell hb7 d4
        have d5 := keep_cell hb7 d5
        have zz := HB6.out.2.keep hb7
        have HBZ : Hid (Below w.heap.size w w7) := below_tr HB6.out.1 hb7
        clear KL hb7
        by_cases hlj : LJ = S
        · have HR0 : Hid (insR l = some J) := by show _ = _; rw [HDOC.out, if_neg hfe, if_pos hlj]
          have hcb : (LJ.toList == S.toList) = true := by rw [hlj]; simp
          have hcc : (LJ.toList != S.toList) = false := by rw [hlj]; simp
          clear hlj hfe
          obtain ⟨q0, q1, q2, q3, q4, q5⟩ := zz.cells
          have f0 := zz.frozen 0
          have f1 := zz.frozen 1
          have f2 := zz.frozen 2
          have f3 := zz.frozen 3
          have f4 := zz.frozen 4
          have f5 := zz.frozen 5
          obtain ⟨W9, hW9⟩ : ∃ z, (((((w7.setCell ⟨w.heap.size, 0, none⟩ (.string J.name)).setCell ⟨w.heap.size, 1, none⟩ (.int .i64 J.rs)).setCell ⟨w.heap.size, 2, none⟩ (.int .i64 J.rt)).setCell ⟨w.heap.size, 3, none⟩ (.int .i64 J.rd)).setCell ⟨w.heap.size, 4, none⟩ (.int .i64 J.sa)).setCell ⟨w.heap.size, 5, none⟩ (.int .u32 (J.imm : Int)) = z := ⟨_, rfl⟩
          have g9 := st6_grown w7 w.heap.size J
          rw [show st6 w7 w.heap.size J = W9 from hW9] at g9
          have i9 := st6_in zz J
          rw [show st6 w7 w.heap.size J = W9 from hW9] at i9
          obtain ⟨s0, s1, s2, s3, s4, s5⟩ := i9.cells
          have HB9 : Hid (Below w.heap.size w W9) := HBZ.out.grown g9 HBZ.out.size (fun k e => by injection e with e; omega)
          clear zz g9 i9
          go_wp2
          have HP9 := HPS.out J W9 HR0.out HB9.out
          refine bodyPost_ret (v := .tuple #[.agg #[.string J.name, .int .i64 J.rs, .int .i64 J.rt, .int .i64 J.rd, .int .i64 J.sa, .int .u32 (J.imm : Int)], .int .i64 0]) ?_ rfl HP9
          rw [results_cell_tmp rfl]; simp [go_sem, s0, s1, s2, s3, s4, s5]
        · have HR0 : Hid (insR l = none) := by show _ = _; rw [HDOC.out, if_neg hfe, if_neg hlj]
          have hcb : (LJ.toList == S.toList) = false := by
            cases hh : (LJ.toList == S.toList) with
            | false => rfl
            | true => exact absurd (toList_inj (by simpa using hh)) hlj
          have hcc : (LJ.toList != S.toList) = true := by rw [bne, hcb]; rfl
          clear hlj hfe
          obtain ⟨q0, q1, q2, q3, q4, q5⟩ := zz.cells
          have f0 := zz.frozen 0
          have f1 := zz.frozen 1
          have f2 := zz.frozen 2
          have f3 := zz.frozen 3
          have f4 := zz.frozen 4
          have f5 := zz.frozen 5
          obtain ⟨W9, hW9⟩ : ∃ z, (((((w7.setCell ⟨w.heap.size, 0, none⟩ (.string ⟨#[]⟩)).setCell ⟨w.heap.size, 1, none⟩ (.int .i64 0)).setCell ⟨w.heap.size, 2, none⟩ (.int .i64 0)).setCell ⟨w.heap.size, 3, none⟩ (.int .i64 0)).setCell ⟨w.heap.size, 4, none⟩ (.int .i64 0)).setCell ⟨w.heap.size, 5, none⟩ (.int .u32 0) = z := ⟨_, rfl⟩
          have g9 := st6_grown w7 w.heap.size zeroI
          rw [show st6 w7 w.heap.size zeroI = W9 from hW9] at g9
          have i9 := st6_in zz zeroI
          rw [show st6 w7 w.heap.size zeroI = W9 from hW9] at i9
          obtain ⟨s0, s1, s2, s3, s4, s5⟩ := i9.cells
          have HB9 : Hid (Below w.heap.size w W9) := HBZ.out.grown g9 HBZ.out.size (fun k e => by injection e with e; omega)
          clear zz g9 i9
          have s0 : W9.cell? ⟨w.heap.size, 0, none⟩ = some (.string ⟨#[]⟩) := s0
          have s1 : W9.cell? ⟨w.heap.size, 1, none⟩ = some (.int .i64 0) := s1
          have s2 : W9.cell? ⟨w.heap.size, 2, none⟩ = some (.int .i64 0) := s2
          have s3 : W9.cell? ⟨w.heap.size, 3, none⟩ = some (.int .i64 0) := s3
          have s4 : W9.cell? ⟨w.heap.size, 4, none⟩ = some (.int .i64 0) := s4
          have s5 : W9.cell? ⟨w.heap.size, 5, none⟩ = some (.int .u32 0) := s5
          go_wp2
          have HP9 := HPN.out W9 HR0.out HB9.out
          refine bodyPost_ret (v := .tuple #[.agg #[.string ⟨#[]⟩, .int .i64 0, .int .i64 0, .int .i64 0, .int .i64 0, .int .u32 0], .int .i64 110]) ?_ rfl HP9
          rw [results_cell_tmp rfl]; simp [go_sem, s0, s1, s2, s3, s4, s5]
end Go.Proofs.YtglkkeelocdanaaGreatDoor
