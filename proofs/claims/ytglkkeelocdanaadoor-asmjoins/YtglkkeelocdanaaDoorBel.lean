/- What is proved here: whether an instruction and a word are each other's. -/
import Derived.Test.YtglkkeelocdanaaDoorIns
namespace Go.Proofs.YtglkkeelocdanaaDoor
open Go.RowKit
set_option linter.unusedVariables false
set_option linter.unusedSimpArgs false
set_option maxRecDepth 100000
/-- Two instructions are the same. -/
def inEq (i j : In) : Bool := i.name.toList == j.name.toList && (i.rs == j.rs && (i.rt == j.rt && (i.rd == j.rd && (i.sa == j.sa && (i.imm == j.imm)))))
theorem inEq_iff (i j : In) : inEq i j = true ↔ i = j := by
  obtain ⟨n, a, b, c, d, e⟩ := i
  obtain ⟨n', a', b', c', d', e'⟩ := j
  have : (n.toList == n'.toList) = (n == n') := (beq_toListBytes n n').symm
  simp only [inEq, this, Bool.and_eq_true, beq_iff_eq, In.mk.injEq]
  rw [show ((n == n') = true ↔ n = n') from ⟨fun h => by obtain ⟨⟨x⟩⟩ := n; obtain ⟨⟨y⟩⟩ := n'; have h' : ((⟨x⟩ : Array UInt8) == ⟨y⟩) = true := h; simp at h'; rw [h'], fun h => by rw [h]; obtain ⟨⟨y⟩⟩ := n'; show ((⟨y⟩ : Array UInt8) == ⟨y⟩) = true; simp⟩]
set_option maxHeartbeats 1000000 in
theorem eq24 (i j : In) (w : World) : (binOp .eql 29 i.val j.val).run Tryd.prog w = .ok (.bool (inEq i j)) w := by
  obtain ⟨n, a, b, c, d, e⟩ := i
  obtain ⟨n', a', b', c', d', e'⟩ := j
  have he : ((e : Int) == (e' : Int)) = (e == e') := by
    rw [Bool.eq_iff_iff]; simp only [beq_iff_eq]; omega
  simp only [In.val, inEq]
  rw [← he]
  cases h0 : (n.toList == n'.toList) with
  | false => simp [go_sem, h0]
  | true =>
    cases h1 : (a == a') with
    | false => simp [go_sem, h0, h1]
    | true =>
      cases h2 : (b == b') with
      | false => simp [go_sem, h0, h1, h2]
      | true =>
        cases h3 : (c == c') with
        | false => simp [go_sem, h0, h1, h2, h3]
        | true =>
          cases h4 : (d == d') with
          | false => simp [go_sem, h0, h1, h2, h3, h4]
          | true =>
            cases h5 : ((e : Int) == (e' : Int)) with
            | false => simp [go_sem, h0, h1, h2, h3, h4, h5]
            | true =>
              simp [go_sem, h0, h1, h2, h3, h4, h5]
def belongB (s : Sh) (i : In) (x : Nat) : Bool := inEq (insN s x) i && ((wordN s i == x) && allowsB s i)
set_option maxHeartbeats 1000000 in
theorem belong19 (s : Sh) (i : In) (x : Nat) (w : World) (hx : x < 4294967296) (hi : i.imm < 4294967296) (hf : s.few < 4294967296) (hsa : s.same < 4294967296) (hg : Great s.great) (ht : Tab w) : Calls Tryd.prog 37 #[s.val, i.val, .int .u32 (x : Int)] w fun e w' => e = .returned (.bool (belongB s i x)) ∧ Below w.heap.size w w' := by
  have EQ0 := fun w' => eq24 (insN s x) i w'
  obtain ⟨W, hW, hb, hz, hc, hd, hfr⟩ := box66 w (.string s.name) (.int .u32 (s.op : Int)) (.int .u32 (s.same : Int)) (.string s.form) (.int .u32 (s.few : Int)) (.int .u32 (s.great : Int)) (.string i.name) (.int .i64 i.rs) (.int .i64 i.rt) (.int .i64 i.rd) (.int .i64 i.sa) (.int .u32 (i.imm : Int)) 75 29
  have K20 : Hid (∀ w', Below W.heap.size W w' → Calls Tryd.prog 55 #[s.val, .int .u32 (x : Int)] w' fun e w'' => e = .returned (insN s x).val ∧ Below w'.heap.size w' w'') := fun w' h => ins20 s x w' hx hf hg (ht.keep (below_tr hb h))
  have K25 : Hid (∀ w', Below W.heap.size W w' → Calls Tryd.prog 36 #[s.val, i.val] w' fun e w'' => e = .returned (.int .u32 (wordN s i : Int)) ∧ Below w'.heap.size w' w'') := fun w' h => word25 s i w' hi hsa hg (ht.keep (below_tr hb h))
  have K29 : Hid (∀ w', Below W.heap.size W w' → Calls Tryd.prog 56 #[s.val, i.val] w' fun e w'' => e = .returned (.bool (allowsB s i)) ∧ Below w'.heap.size w' w'') := fun w' h => allows29 s i w'
  unfold belongB
  generalize insN s x = I at EQ0 K20 ⊢
  generalize inEq I i = b1 at EQ0 ⊢
  obtain ⟨n1, r1, r2, r3, r4, m1⟩ := I
  generalize wordN s i = WN at K25 ⊢
  generalize allowsB s i = b3 at K29 ⊢
  have HB : Hid (Below w.heap.size w W) := hb
  clear hx hi hf hsa hg ht hb hfr hz
  obtain ⟨name, op, same, form, few, great⟩ := s
  obtain ⟨nm, rs, rt, rd, sa, imm⟩ := i
  simp only [Sh.val, In.val] at K20 K25 K29 EQ0 hc hd hW ⊢
  obtain ⟨c0, c1, c2, c3, c4, c5⟩ := hc
  obtain ⟨d0, d1, d2, d3, d4, d5⟩ := hd
  have EQ := EQ0
  clear EQ0
  cases b1 with
  | false =>
    have e2 : True := trivial
    simp only [Bool.false_and]
    go_enter Tryd.func37, Tryd.ntmps37
    go_wp2
    refine wp_region_slots (R := Ext) [⟨7, fun v _ => v = .agg #[.string name, .int .u32 (op : Int), .int .u32 (same : Int), .string form, .int .u32 (few : Int), .int .u32 (great : Int)], fun _ _ _ _ h => h⟩, ⟨8, fun v _ => v = .int .u32 (x : Int), fun _ _ _ _ h => h⟩, ⟨9, fun v _ => v = .agg #[.string n1, .int .i64 r1, .int .i64 r2, .int .i64 r3, .int .i64 r4, .int .u32 (m1 : Int)], fun _ _ _ _ h => h⟩, ⟨10, fun v _ => v = .agg #[.string nm, .int .i64 rs, .int .i64 rt, .int .i64 rd, .int .i64 sa, .int .u32 (imm : Int)], fun _ _ _ _ h => h⟩, ⟨11, fun v _ => v = .bool false, fun _ _ _ _ h => h⟩, ⟨12, fun v _ => v = .bool false, fun _ _ _ _ h => h⟩, ⟨13, fun v _ => v = undef, fun _ _ _ _ h => h⟩, ⟨14, fun v _ => v = undef, fun _ _ _ _ h => h⟩, ⟨15, fun v _ => v = undef, fun _ _ _ _ h => h⟩, ⟨16, fun v _ => v = undef, fun _ _ _ _ h => h⟩, ⟨17, fun v _ => v = undef, fun _ _ _ _ h => h⟩, ⟨18, fun v _ => v = .bool false, fun _ _ _ _ h => h⟩, ⟨19, fun v _ => v = .bool false, fun _ _ _ _ h => h⟩, ⟨20, fun v _ => v = undef, fun _ _ _ _ h => h⟩, ⟨21, fun v _ => v = undef, fun _ _ _ _ h => h⟩, ⟨22, fun v _ => v = undef, fun _ _ _ _ h => h⟩, ⟨23, fun v _ => v = .bool false, fun _ _ _ _ h => h⟩, ⟨6, fun v _ => v = .bool false, fun _ _ _ _ h => h⟩] _ (by kernel_rfl) rfl (by kernel_rfl) (Below.drew (Below.refl _ _)) (fun _ _ _ h1 h2 => below_tr h1 h2) (fun QQ => ⟨?_, ?_, ?_, ?_, ?_, ?_, ?_, ?_, ?_, ?_, ?_, ?_, ?_, ?_, ?_, ?_, ?_, ?_, trivial⟩) (fun f wy hR hf => ?_)
    · intro A wx hR hout hdep K hK
      have h3 : A.tmps[3]?.getD undef = .pointer (some ⟨w.heap.size, 0, none⟩) := hout 3 (by kernel_rfl)
      refine if_yes (by kernel_rfl) ?_
      have c0 := keep_cell hR c0
      have c1 := keep_cell hR c1
      have c2 := keep_cell hR c2
      have c3 := keep_cell hR c3
      have c4 := keep_cell hR c4
      have c5 := keep_cell hR c5
      have d0 := keep_cell hR d0
      have d1 := keep_cell hR d1
      have d2 := keep_cell hR d2
      have d3 := keep_cell hR d3
      have d4 := keep_cell hR d4
      have d5 := keep_cell hR d5
      simp [go_sem, h3, c0, c1, c2, c3, c4, c5, d0, d1, d2, d3, d4, d5, EQ, e2]
      exact hK.out _ _ (Below.refl _ _) rfl
    · intro A wx hR hout hdep K hK
      have h2 : A.tmps[2]?.getD undef = .int .u32 (x : Int) := hout 2 (by kernel_rfl)
      refine if_yes (by kernel_rfl) ?_
      simp [go_sem, h2, EQ, e2]
      exact hK.out _ _ (Below.refl _ _) rfl
    · intro A wx hR hout hdep K hK
      have h7 : A.tmps[7]?.getD undef = .agg #[.string name, .int .u32 (op : Int), .int .u32 (same : Int), .string form, .int .u32 (few : Int), .int .u32 (great : Int)] := hdep 7 (by kernel_rfl)
      have h8 : A.tmps[8]?.getD undef = .int .u32 (x : Int) := hdep 8 (by kernel_rfl)
      refine if_yes (by kernel_rfl) ?_
      simp [go_sem, h7, h8, EQ, e2]
      refine (K20.out wx hR).mono ?_
      rintro e wG ⟨rfl, hbG⟩
      exact hK.out _ _ hbG rfl
    · intro A wx hR hout hdep K hK
      have h4 : A.tmps[4]?.getD undef = .pointer (some ⟨w.heap.size + 1, 0, none⟩) := hout 4 (by kernel_rfl)
      refine if_yes (by kernel_rfl) ?_
      have c0 := keep_cell hR c0
      have c1 := keep_cell hR c1
      have c2 := keep_cell hR c2
      have c3 := keep_cell hR c3
      have c4 := keep_cell hR c4
      have c5 := keep_cell hR c5
      have d0 := keep_cell hR d0
      have d1 := keep_cell hR d1
      have d2 := keep_cell hR d2
      have d3 := keep_cell hR d3
      have d4 := keep_cell hR d4
      have d5 := keep_cell hR d5
      simp [go_sem, h4, c0, c1, c2, c3, c4, c5, d0, d1, d2, d3, d4, d5, EQ, e2]
      exact hK.out _ _ (Below.refl _ _) rfl
    · intro A wx hR hout hdep K hK
      have h9 : A.tmps[9]?.getD undef = .agg #[.string n1, .int .i64 r1, .int .i64 r2, .int .i64 r3, .int .i64 r4, .int .u32 (m1 : Int)] := hdep 9 (by kernel_rfl)
      have h10 : A.tmps[10]?.getD undef = .agg #[.string nm, .int .i64 rs, .int .i64 rt, .int .i64 rd, .int .i64 sa, .int .u32 (imm : Int)] := hdep 10 (by kernel_rfl)
      refine if_yes (by kernel_rfl) ?_
      simp [go_sem, h9, h10, EQ, e2]
      exact hK.out _ _ (Below.refl _ _) rfl
    · intro A wx hR hout hdep K hK
      have h11 : A.tmps[11]?.getD undef = .bool false := hdep 11 (by kernel_rfl)
      refine if_yes (by kernel_rfl) ?_
      simp [go_sem, h11, EQ, e2]
      exact hK.out _ _ (Below.refl _ _) rfl
    · intro A wx hR hout hdep K hK
      have h3 : A.tmps[3]?.getD undef = .pointer (some ⟨w.heap.size, 0, none⟩) := hout 3 (by kernel_rfl)
      have h12 : A.tmps[12]?.getD undef = .bool false := hdep 12 (by kernel_rfl)
      refine if_not (by rw [wanted_is (j := 5) (b := true) (by kernel_rfl) (by kernel_rfl) h12]; decide) ?_
      exact hK.out _ _ (Below.refl _ _) rfl
    · intro A wx hR hout hdep K hK
      have h4 : A.tmps[4]?.getD undef = .pointer (some ⟨w.heap.size + 1, 0, none⟩) := hout 4 (by kernel_rfl)
      have h12 : A.tmps[12]?.getD undef = .bool false := hdep 12 (by kernel_rfl)
      refine if_not (by rw [wanted_is (j := 5) (b := true) (by kernel_rfl) (by kernel_rfl) h12]; decide) ?_
      exact hK.out _ _ (Below.refl _ _) rfl
    · intro A wx hR hout hdep K hK
      have h13 : A.tmps[13]?.getD undef = undef := hdep 13 (by kernel_rfl)
      have h14 : A.tmps[14]?.getD undef = undef := hdep 14 (by kernel_rfl)
      have h12 : A.tmps[12]?.getD undef = .bool false := hdep 12 (by kernel_rfl)
      refine if_not (by rw [wanted_is (j := 5) (b := true) (by kernel_rfl) (by kernel_rfl) h12]; decide) ?_
      exact hK.out _ _ (Below.refl _ _) rfl
    · intro A wx hR hout hdep K hK
      have h2 : A.tmps[2]?.getD undef = .int .u32 (x : Int) := hout 2 (by kernel_rfl)
      have h12 : A.tmps[12]?.getD undef = .bool false := hdep 12 (by kernel_rfl)
      refine if_not (by rw [wanted_is (j := 5) (b := true) (by kernel_rfl) (by kernel_rfl) h12]; decide) ?_
      exact hK.out _ _ (Below.refl _ _) rfl
    · intro A wx hR hout hdep K hK
      have h15 : A.tmps[15]?.getD undef = undef := hdep 15 (by kernel_rfl)
      have h16 : A.tmps[16]?.getD undef = undef := hdep 16 (by kernel_rfl)
      have h12 : A.tmps[12]?.getD undef = .bool false := hdep 12 (by kernel_rfl)
      refine if_not (by rw [wanted_is (j := 5) (b := true) (by kernel_rfl) (by kernel_rfl) h12]; decide) ?_
      exact hK.out _ _ (Below.refl _ _) rfl
    · intro A wx hR hout hdep K hK
      have h12 : A.tmps[12]?.getD undef = .bool false := hdep 12 (by kernel_rfl)
      have h17 : A.tmps[17]?.getD undef = undef := hdep 17 (by kernel_rfl)
      refine if_yes (by kernel_rfl) ?_
      simp [go_sem, h12, h17, EQ, e2]
      exact hK.out _ _ (Below.refl _ _) rfl
    · intro A wx hR hout hdep K hK
      have h18 : A.tmps[18]?.getD undef = .bool false := hdep 18 (by kernel_rfl)
      refine if_yes (by kernel_rfl) ?_
      simp [go_sem, h18, EQ, e2]
      exact hK.out _ _ (Below.refl _ _) rfl
    · intro A wx hR hout hdep K hK
      have h3 : A.tmps[3]?.getD undef = .pointer (some ⟨w.heap.size, 0, none⟩) := hout 3 (by kernel_rfl)
      have h19 : A.tmps[19]?.getD undef = .bool false := hdep 19 (by kernel_rfl)
      refine if_not (by rw [wanted_is (j := 12) (b := true) (by kernel_rfl) (by kernel_rfl) h19]; decide) ?_
      exact hK.out _ _ (Below.refl _ _) rfl
    · intro A wx hR hout hdep K hK
      have h4 : A.tmps[4]?.getD undef = .pointer (some ⟨w.heap.size + 1, 0, none⟩) := hout 4 (by kernel_rfl)
      have h19 : A.tmps[19]?.getD undef = .bool false := hdep 19 (by kernel_rfl)
      refine if_not (by rw [wanted_is (j := 12) (b := true) (by kernel_rfl) (by kernel_rfl) h19]; decide) ?_
      exact hK.out _ _ (Below.refl _ _) rfl
    · intro A wx hR hout hdep K hK
      have h20 : A.tmps[20]?.getD undef = undef := hdep 20 (by kernel_rfl)
      have h21 : A.tmps[21]?.getD undef = undef := hdep 21 (by kernel_rfl)
      have h19 : A.tmps[19]?.getD undef = .bool false := hdep 19 (by kernel_rfl)
      refine if_not (by rw [wanted_is (j := 12) (b := true) (by kernel_rfl) (by kernel_rfl) h19]; decide) ?_
      exact hK.out _ _ (Below.refl _ _) rfl
    · intro A wx hR hout hdep K hK
      have h19 : A.tmps[19]?.getD undef = .bool false := hdep 19 (by kernel_rfl)
      have h22 : A.tmps[22]?.getD undef = undef := hdep 22 (by kernel_rfl)
      refine if_yes (by kernel_rfl) ?_
      simp [go_sem, h19, h22, EQ, e2]
      exact hK.out _ _ (Below.refl _ _) rfl
    · intro A wx hR hout hdep K hK
      have h23 : A.tmps[23]?.getD undef = .bool false := hdep 23 (by kernel_rfl)
      refine if_yes (by kernel_rfl) ?_
      simp [go_sem, h23, EQ, e2]
      exact hK.out _ _ (Below.refl _ _) rfl
    simp only [putSl, Act.put, List.setIfInBounds_toArray, List.set_cons_zero, List.set_cons_succ, show f 6 = .bool false from hf 6 (by kernel_rfl)]
    have HBE : Hid (Below w.heap.size w wy) := below_tr HB.out hR
    go_wp2
    go_ret
    exact ⟨rfl, HBE.out⟩
  | true =>
    cases e2' : (WN == x) with
    | false =>
      have e2 : ((WN : Int) == (x : Int)) = false := by simp at e2' ⊢; omega
      simp only [Bool.true_and, Bool.false_and]
      clear e2'
      go_enter Tryd.func37, Tryd.ntmps37
      go_wp2
      refine wp_region_slots (R := Ext) [⟨7, fun v _ => v = .agg #[.string name, .int .u32 (op : Int), .int .u32 (same : Int), .string form, .int .u32 (few : Int), .int .u32 (great : Int)], fun _ _ _ _ h => h⟩, ⟨8, fun v _ => v = .int .u32 (x : Int), fun _ _ _ _ h => h⟩, ⟨9, fun v _ => v = .agg #[.string n1, .int .i64 r1, .int .i64 r2, .int .i64 r3, .int .i64 r4, .int .u32 (m1 : Int)], fun _ _ _ _ h => h⟩, ⟨10, fun v _ => v = .agg #[.string nm, .int .i64 rs, .int .i64 rt, .int .i64 rd, .int .i64 sa, .int .u32 (imm : Int)], fun _ _ _ _ h => h⟩, ⟨11, fun v _ => v = .bool true, fun _ _ _ _ h => h⟩, ⟨12, fun v _ => v = .bool true, fun _ _ _ _ h => h⟩, ⟨13, fun v _ => v = .agg #[.string name, .int .u32 (op : Int), .int .u32 (same : Int), .string form, .int .u32 (few : Int), .int .u32 (great : Int)], fun _ _ _ _ h => h⟩, ⟨14, fun v _ => v = .agg #[.string nm, .int .i64 rs, .int .i64 rt, .int .i64 rd, .int .i64 sa, .int .u32 (imm : Int)], fun _ _ _ _ h => h⟩, ⟨15, fun v _ => v = .int .u32 (WN : Int), fun _ _ _ _ h => h⟩, ⟨16, fun v _ => v = .int .u32 (x : Int), fun _ _ _ _ h => h⟩, ⟨17, fun v _ => v = .bool false, fun _ _ _ _ h => h⟩, ⟨18, fun v _ => v = .bool false, fun _ _ _ _ h => h⟩, ⟨19, fun v _ => v = .bool false, fun _ _ _ _ h => h⟩, ⟨20, fun v _ => v = undef, fun _ _ _ _ h => h⟩, ⟨21, fun v _ => v = undef, fun _ _ _ _ h => h⟩, ⟨22, fun v _ => v = undef, fun _ _ _ _ h => h⟩, ⟨23, fun v _ => v = .bool false, fun _ _ _ _ h => h⟩, ⟨6, fun v _ => v = .bool false, fun _ _ _ _ h => h⟩] _ (by kernel_rfl) rfl (by kernel_rfl) (Below.drew (Below.refl _ _)) (fun _ _ _ h1 h2 => below_tr h1 h2) (fun QQ => ⟨?_, ?_, ?_, ?_, ?_, ?_, ?_, ?_, ?_, ?_, ?_, ?_, ?_, ?_, ?_, ?_, ?_, ?_, trivial⟩) (fun f wy hR hf => ?_)
      · intro A wx hR hout hdep K hK
        have h3 : A.tmps[3]?.getD undef = .pointer (some ⟨w.heap.size, 0, none⟩) := hout 3 (by kernel_rfl)
        refine if_yes (by kernel_rfl) ?_
        have c0 := keep_cell hR c0
        have c1 := keep_cell hR c1
        have c2 := keep_cell hR c2
        have c3 := keep_cell hR c3
        have c4 := keep_cell hR c4
        have c5 := keep_cell hR c5
        have d0 := keep_cell hR d0
        have d1 := keep_cell hR d1
        have d2 := keep_cell hR d2
        have d3 := keep_cell hR d3
        have d4 := keep_cell hR d4
        have d5 := keep_cell hR d5
        simp [go_sem, h3, c0, c1, c2, c3, c4, c5, d0, d1, d2, d3, d4, d5, EQ, e2]
        exact hK.out _ _ (Below.refl _ _) rfl
      · intro A wx hR hout hdep K hK
        have h2 : A.tmps[2]?.getD undef = .int .u32 (x : Int) := hout 2 (by kernel_rfl)
        refine if_yes (by kernel_rfl) ?_
        simp [go_sem, h2, EQ, e2]
        exact hK.out _ _ (Below.refl _ _) rfl
      · intro A wx hR hout hdep K hK
        have h7 : A.tmps[7]?.getD undef = .agg #[.string name, .int .u32 (op : Int), .int .u32 (same : Int), .string form, .int .u32 (few : Int), .int .u32 (great : Int)] := hdep 7 (by kernel_rfl)
        have h8 : A.tmps[8]?.getD undef = .int .u32 (x : Int) := hdep 8 (by kernel_rfl)
        refine if_yes (by kernel_rfl) ?_
        simp [go_sem, h7, h8, EQ, e2]
        refine (K20.out wx hR).mono ?_
        rintro e wG ⟨rfl, hbG⟩
        exact hK.out _ _ hbG rfl
      · intro A wx hR hout hdep K hK
        have h4 : A.tmps[4]?.getD undef = .pointer (some ⟨w.heap.size + 1, 0, none⟩) := hout 4 (by kernel_rfl)
        refine if_yes (by kernel_rfl) ?_
        have c0 := keep_cell hR c0
        have c1 := keep_cell hR c1
        have c2 := keep_cell hR c2
        have c3 := keep_cell hR c3
        have c4 := keep_cell hR c4
        have c5 := keep_cell hR c5
        have d0 := keep_cell hR d0
        have d1 := keep_cell hR d1
        have d2 := keep_cell hR d2
        have d3 := keep_cell hR d3
        have d4 := keep_cell hR d4
        have d5 := keep_cell hR d5
        simp [go_sem, h4, c0, c1, c2, c3, c4, c5, d0, d1, d2, d3, d4, d5, EQ, e2]
        exact hK.out _ _ (Below.refl _ _) rfl
      · intro A wx hR hout hdep K hK
        have h9 : A.tmps[9]?.getD undef = .agg #[.string n1, .int .i64 r1, .int .i64 r2, .int .i64 r3, .int .i64 r4, .int .u32 (m1 : Int)] := hdep 9 (by kernel_rfl)
        have h10 : A.tmps[10]?.getD undef = .agg #[.string nm, .int .i64 rs, .int .i64 rt, .int .i64 rd, .int .i64 sa, .int .u32 (imm : Int)] := hdep 10 (by kernel_rfl)
        refine if_yes (by kernel_rfl) ?_
        simp [go_sem, h9, h10, EQ, e2]
        exact hK.out _ _ (Below.refl _ _) rfl
      · intro A wx hR hout hdep K hK
        have h11 : A.tmps[11]?.getD undef = .bool true := hdep 11 (by kernel_rfl)
        refine if_yes (by kernel_rfl) ?_
        simp [go_sem, h11, EQ, e2]
        exact hK.out _ _ (Below.refl _ _) rfl
      · intro A wx hR hout hdep K hK
        have h3 : A.tmps[3]?.getD undef = .pointer (some ⟨w.heap.size, 0, none⟩) := hout 3 (by kernel_rfl)
        have h12 : A.tmps[12]?.getD undef = .bool true := hdep 12 (by kernel_rfl)
        refine if_yes ((wanted_is (j := 5) (b := true) (by kernel_rfl) (by kernel_rfl) h12).trans rfl) ?_
        have c0 := keep_cell hR c0
        have c1 := keep_cell hR c1
        have c2 := keep_cell hR c2
        have c3 := keep_cell hR c3
        have c4 := keep_cell hR c4
        have c5 := keep_cell hR c5
        have d0 := keep_cell hR d0
        have d1 := keep_cell hR d1
        have d2 := keep_cell hR d2
        have d3 := keep_cell hR d3
        have d4 := keep_cell hR d4
        have d5 := keep_cell hR d5
        simp [go_sem, h3, c0, c1, c2, c3, c4, c5, d0, d1, d2, d3, d4, d5, EQ, e2]
        exact hK.out _ _ (Below.refl _ _) rfl
      · intro A wx hR hout hdep K hK
        have h4 : A.tmps[4]?.getD undef = .pointer (some ⟨w.heap.size + 1, 0, none⟩) := hout 4 (by kernel_rfl)
        have h12 : A.tmps[12]?.getD undef = .bool true := hdep 12 (by kernel_rfl)
        refine if_yes ((wanted_is (j := 5) (b := true) (by kernel_rfl) (by kernel_rfl) h12).trans rfl) ?_
        have c0 := keep_cell hR c0
        have c1 := keep_cell hR c1
        have c2 := keep_cell hR c2
        have c3 := keep_cell hR c3
        have c4 := keep_cell hR c4
        have c5 := keep_cell hR c5
        have d0 := keep_cell hR d0
        have d1 := keep_cell hR d1
        have d2 := keep_cell hR d2
        have d3 := keep_cell hR d3
        have d4 := keep_cell hR d4
        have d5 := keep_cell hR d5
        simp [go_sem, h4, c0, c1, c2, c3, c4, c5, d0, d1, d2, d3, d4, d5, EQ, e2]
        exact hK.out _ _ (Below.refl _ _) rfl
      · intro A wx hR hout hdep K hK
        have h13 : A.tmps[13]?.getD undef = .agg #[.string name, .int .u32 (op : Int), .int .u32 (same : Int), .string form, .int .u32 (few : Int), .int .u32 (great : Int)] := hdep 13 (by kernel_rfl)
        have h14 : A.tmps[14]?.getD undef = .agg #[.string nm, .int .i64 rs, .int .i64 rt, .int .i64 rd, .int .i64 sa, .int .u32 (imm : Int)] := hdep 14 (by kernel_rfl)
        have h12 : A.tmps[12]?.getD undef = .bool true := hdep 12 (by kernel_rfl)
        refine if_yes ((wanted_is (j := 5) (b := true) (by kernel_rfl) (by kernel_rfl) h12).trans rfl) ?_
        simp [go_sem, h13, h14, EQ, e2]
        refine (K25.out wx hR).mono ?_
        rintro e wG ⟨rfl, hbG⟩
        exact hK.out _ _ hbG rfl
      · intro A wx hR hout hdep K hK
        have h2 : A.tmps[2]?.getD undef = .int .u32 (x : Int) := hout 2 (by kernel_rfl)
        have h12 : A.tmps[12]?.getD undef = .bool true := hdep 12 (by kernel_rfl)
        refine if_yes ((wanted_is (j := 5) (b := true) (by kernel_rfl) (by kernel_rfl) h12).trans rfl) ?_
        simp [go_sem, h2, EQ, e2]
        exact hK.out _ _ (Below.refl _ _) rfl
      · intro A wx hR hout hdep K hK
        have h15 : A.tmps[15]?.getD undef = .int .u32 (WN : Int) := hdep 15 (by kernel_rfl)
        have h16 : A.tmps[16]?.getD undef = .int .u32 (x : Int) := hdep 16 (by kernel_rfl)
        have h12 : A.tmps[12]?.getD undef = .bool true := hdep 12 (by kernel_rfl)
        refine if_yes ((wanted_is (j := 5) (b := true) (by kernel_rfl) (by kernel_rfl) h12).trans rfl) ?_
        simp [go_sem, h15, h16, EQ, e2]
        exact hK.out _ _ (Below.refl _ _) rfl
      · intro A wx hR hout hdep K hK
        have h12 : A.tmps[12]?.getD undef = .bool true := hdep 12 (by kernel_rfl)
        have h17 : A.tmps[17]?.getD undef = .bool false := hdep 17 (by kernel_rfl)
        refine if_yes (by kernel_rfl) ?_
        simp [go_sem, h12, h17, EQ, e2]
        exact hK.out _ _ (Below.refl _ _) rfl
      · intro A wx hR hout hdep K hK
        have h18 : A.tmps[18]?.getD undef = .bool false := hdep 18 (by kernel_rfl)
        refine if_yes (by kernel_rfl) ?_
        simp [go_sem, h18, EQ, e2]
        exact hK.out _ _ (Below.refl _ _) rfl
      · intro A wx hR hout hdep K hK
        have h3 : A.tmps[3]?.getD undef = .pointer (some ⟨w.heap.size, 0, none⟩) := hout 3 (by kernel_rfl)
        have h19 : A.tmps[19]?.getD undef = .bool false := hdep 19 (by kernel_rfl)
        refine if_not (by rw [wanted_is (j := 12) (b := true) (by kernel_rfl) (by kernel_rfl) h19]; decide) ?_
        exact hK.out _ _ (Below.refl _ _) rfl
      · intro A wx hR hout hdep K hK
        have h4 : A.tmps[4]?.getD undef = .pointer (some ⟨w.heap.size + 1, 0, none⟩) := hout 4 (by kernel_rfl)
        have h19 : A.tmps[19]?.getD undef = .bool false := hdep 19 (by kernel_rfl)
        refine if_not (by rw [wanted_is (j := 12) (b := true) (by kernel_rfl) (by kernel_rfl) h19]; decide) ?_
        exact hK.out _ _ (Below.refl _ _) rfl
      · intro A wx hR hout hdep K hK
        have h20 : A.tmps[20]?.getD undef = undef := hdep 20 (by kernel_rfl)
        have h21 : A.tmps[21]?.getD undef = undef := hdep 21 (by kernel_rfl)
        have h19 : A.tmps[19]?.getD undef = .bool false := hdep 19 (by kernel_rfl)
        refine if_not (by rw [wanted_is (j := 12) (b := true) (by kernel_rfl) (by kernel_rfl) h19]; decide) ?_
        exact hK.out _ _ (Below.refl _ _) rfl
      · intro A wx hR hout hdep K hK
        have h19 : A.tmps[19]?.getD undef = .bool false := hdep 19 (by kernel_rfl)
        have h22 : A.tmps[22]?.getD undef = undef := hdep 22 (by kernel_rfl)
        refine if_yes (by kernel_rfl) ?_
        simp [go_sem, h19, h22, EQ, e2]
        exact hK.out _ _ (Below.refl _ _) rfl
      · intro A wx hR hout hdep K hK
        have h23 : A.tmps[23]?.getD undef = .bool false := hdep 23 (by kernel_rfl)
        refine if_yes (by kernel_rfl) ?_
        simp [go_sem, h23, EQ, e2]
        exact hK.out _ _ (Below.refl _ _) rfl
      simp only [putSl, Act.put, List.setIfInBounds_toArray, List.set_cons_zero, List.set_cons_succ, show f 6 = .bool false from hf 6 (by kernel_rfl)]
      have HBE : Hid (Below w.heap.size w wy) := below_tr HB.out hR
      go_wp2
      go_ret
      exact ⟨rfl, HBE.out⟩
    | true =>
      have e2 : ((WN : Int) == (x : Int)) = true := by simp at e2' ⊢; omega
      simp only [Bool.true_and]
      clear e2'
      go_enter Tryd.func37, Tryd.ntmps37
      go_wp2
      refine wp_region_slots (R := Ext) [⟨7, fun v _ => v = .agg #[.string name, .int .u32 (op : Int), .int .u32 (same : Int), .string form, .int .u32 (few : Int), .int .u32 (great : Int)], fun _ _ _ _ h => h⟩, ⟨8, fun v _ => v = .int .u32 (x : Int), fun _ _ _ _ h => h⟩, ⟨9, fun v _ => v = .agg #[.string n1, .int .i64 r1, .int .i64 r2, .int .i64 r3, .int .i64 r4, .int .u32 (m1 : Int)], fun _ _ _ _ h => h⟩, ⟨10, fun v _ => v = .agg #[.string nm, .int .i64 rs, .int .i64 rt, .int .i64 rd, .int .i64 sa, .int .u32 (imm : Int)], fun _ _ _ _ h => h⟩, ⟨11, fun v _ => v = .bool true, fun _ _ _ _ h => h⟩, ⟨12, fun v _ => v = .bool true, fun _ _ _ _ h => h⟩, ⟨13, fun v _ => v = .agg #[.string name, .int .u32 (op : Int), .int .u32 (same : Int), .string form, .int .u32 (few : Int), .int .u32 (great : Int)], fun _ _ _ _ h => h⟩, ⟨14, fun v _ => v = .agg #[.string nm, .int .i64 rs, .int .i64 rt, .int .i64 rd, .int .i64 sa, .int .u32 (imm : Int)], fun _ _ _ _ h => h⟩, ⟨15, fun v _ => v = .int .u32 (WN : Int), fun _ _ _ _ h => h⟩, ⟨16, fun v _ => v = .int .u32 (x : Int), fun _ _ _ _ h => h⟩, ⟨17, fun v _ => v = .bool true, fun _ _ _ _ h => h⟩, ⟨18, fun v _ => v = .bool true, fun _ _ _ _ h => h⟩, ⟨19, fun v _ => v = .bool true, fun _ _ _ _ h => h⟩, ⟨20, fun v _ => v = .agg #[.string name, .int .u32 (op : Int), .int .u32 (same : Int), .string form, .int .u32 (few : Int), .int .u32 (great : Int)], fun _ _ _ _ h => h⟩, ⟨21, fun v _ => v = .agg #[.string nm, .int .i64 rs, .int .i64 rt, .int .i64 rd, .int .i64 sa, .int .u32 (imm : Int)], fun _ _ _ _ h => h⟩, ⟨22, fun v _ => v = .bool b3, fun _ _ _ _ h => h⟩, ⟨23, fun v _ => v = .bool b3, fun _ _ _ _ h => h⟩, ⟨6, fun v _ => v = .bool b3, fun _ _ _ _ h => h⟩] _ (by kernel_rfl) rfl (by kernel_rfl) (Below.drew (Below.refl _ _)) (fun _ _ _ h1 h2 => below_tr h1 h2) (fun QQ => ⟨?_, ?_, ?_, ?_, ?_, ?_, ?_, ?_, ?_, ?_, ?_, ?_, ?_, ?_, ?_, ?_, ?_, ?_, trivial⟩) (fun f wy hR hf => ?_)
      · intro A wx hR hout hdep K hK
        have h3 : A.tmps[3]?.getD undef = .pointer (some ⟨w.heap.size, 0, none⟩) := hout 3 (by kernel_rfl)
        refine if_yes (by kernel_rfl) ?_
        have c0 := keep_cell hR c0
        have c1 := keep_cell hR c1
        have c2 := keep_cell hR c2
        have c3 := keep_cell hR c3
        have c4 := keep_cell hR c4
        have c5 := keep_cell hR c5
        have d0 := keep_cell hR d0
        have d1 := keep_cell hR d1
        have d2 := keep_cell hR d2
        have d3 := keep_cell hR d3
        have d4 := keep_cell hR d4
        have d5 := keep_cell hR d5
        simp [go_sem, h3, c0, c1, c2, c3, c4, c5, d0, d1, d2, d3, d4, d5, EQ, e2]
        exact hK.out _ _ (Below.refl _ _) rfl
      · intro A wx hR hout hdep K hK
        have h2 : A.tmps[2]?.getD undef = .int .u32 (x : Int) := hout 2 (by kernel_rfl)
        refine if_yes (by kernel_rfl) ?_
        simp [go_sem, h2, EQ, e2]
        exact hK.out _ _ (Below.refl _ _) rfl
      · intro A wx hR hout hdep K hK
        have h7 : A.tmps[7]?.getD undef = .agg #[.string name, .int .u32 (op : Int), .int .u32 (same : Int), .string form, .int .u32 (few : Int), .int .u32 (great : Int)] := hdep 7 (by kernel_rfl)
        have h8 : A.tmps[8]?.getD undef = .int .u32 (x : Int) := hdep 8 (by kernel_rfl)
        refine if_yes (by kernel_rfl) ?_
        simp [go_sem, h7, h8, EQ, e2]
        refine (K20.out wx hR).mono ?_
        rintro e wG ⟨rfl, hbG⟩
        exact hK.out _ _ hbG rfl
      · intro A wx hR hout hdep K hK
        have h4 : A.tmps[4]?.getD undef = .pointer (some ⟨w.heap.size + 1, 0, none⟩) := hout 4 (by kernel_rfl)
        refine if_yes (by kernel_rfl) ?_
        have c0 := keep_cell hR c0
        have c1 := keep_cell hR c1
        have c2 := keep_cell hR c2
        have c3 := keep_cell hR c3
        have c4 := keep_cell hR c4
        have c5 := keep_cell hR c5
        have d0 := keep_cell hR d0
        have d1 := keep_cell hR d1
        have d2 := keep_cell hR d2
        have d3 := keep_cell hR d3
        have d4 := keep_cell hR d4
        have d5 := keep_cell hR d5
        simp [go_sem, h4, c0, c1, c2, c3, c4, c5, d0, d1, d2, d3, d4, d5, EQ, e2]
        exact hK.out _ _ (Below.refl _ _) rfl
      · intro A wx hR hout hdep K hK
        have h9 : A.tmps[9]?.getD undef = .agg #[.string n1, .int .i64 r1, .int .i64 r2, .int .i64 r3, .int .i64 r4, .int .u32 (m1 : Int)] := hdep 9 (by kernel_rfl)
        have h10 : A.tmps[10]?.getD undef = .agg #[.string nm, .int .i64 rs, .int .i64 rt, .int .i64 rd, .int .i64 sa, .int .u32 (imm : Int)] := hdep 10 (by kernel_rfl)
        refine if_yes (by kernel_rfl) ?_
        simp [go_sem, h9, h10, EQ, e2]
        exact hK.out _ _ (Below.refl _ _) rfl
      · intro A wx hR hout hdep K hK
        have h11 : A.tmps[11]?.getD undef = .bool true := hdep 11 (by kernel_rfl)
        refine if_yes (by kernel_rfl) ?_
        simp [go_sem, h11, EQ, e2]
        exact hK.out _ _ (Below.refl _ _) rfl
      · intro A wx hR hout hdep K hK
        have h3 : A.tmps[3]?.getD undef = .pointer (some ⟨w.heap.size, 0, none⟩) := hout 3 (by kernel_rfl)
        have h12 : A.tmps[12]?.getD undef = .bool true := hdep 12 (by kernel_rfl)
        refine if_yes ((wanted_is (j := 5) (b := true) (by kernel_rfl) (by kernel_rfl) h12).trans rfl) ?_
        have c0 := keep_cell hR c0
        have c1 := keep_cell hR c1
        have c2 := keep_cell hR c2
        have c3 := keep_cell hR c3
        have c4 := keep_cell hR c4
        have c5 := keep_cell hR c5
        have d0 := keep_cell hR d0
        have d1 := keep_cell hR d1
        have d2 := keep_cell hR d2
        have d3 := keep_cell hR d3
        have d4 := keep_cell hR d4
        have d5 := keep_cell hR d5
        simp [go_sem, h3, c0, c1, c2, c3, c4, c5, d0, d1, d2, d3, d4, d5, EQ, e2]
        exact hK.out _ _ (Below.refl _ _) rfl
      · intro A wx hR hout hdep K hK
        have h4 : A.tmps[4]?.getD undef = .pointer (some ⟨w.heap.size + 1, 0, none⟩) := hout 4 (by kernel_rfl)
        have h12 : A.tmps[12]?.getD undef = .bool true := hdep 12 (by kernel_rfl)
        refine if_yes ((wanted_is (j := 5) (b := true) (by kernel_rfl) (by kernel_rfl) h12).trans rfl) ?_
        have c0 := keep_cell hR c0
        have c1 := keep_cell hR c1
        have c2 := keep_cell hR c2
        have c3 := keep_cell hR c3
        have c4 := keep_cell hR c4
        have c5 := keep_cell hR c5
        have d0 := keep_cell hR d0
        have d1 := keep_cell hR d1
        have d2 := keep_cell hR d2
        have d3 := keep_cell hR d3
        have d4 := keep_cell hR d4
        have d5 := keep_cell hR d5
        simp [go_sem, h4, c0, c1, c2, c3, c4, c5, d0, d1, d2, d3, d4, d5, EQ, e2]
        exact hK.out _ _ (Below.refl _ _) rfl
      · intro A wx hR hout hdep K hK
        have h13 : A.tmps[13]?.getD undef = .agg #[.string name, .int .u32 (op : Int), .int .u32 (same : Int), .string form, .int .u32 (few : Int), .int .u32 (great : Int)] := hdep 13 (by kernel_rfl)
        have h14 : A.tmps[14]?.getD undef = .agg #[.string nm, .int .i64 rs, .int .i64 rt, .int .i64 rd, .int .i64 sa, .int .u32 (imm : Int)] := hdep 14 (by kernel_rfl)
        have h12 : A.tmps[12]?.getD undef = .bool true := hdep 12 (by kernel_rfl)
        refine if_yes ((wanted_is (j := 5) (b := true) (by kernel_rfl) (by kernel_rfl) h12).trans rfl) ?_
        simp [go_sem, h13, h14, EQ, e2]
        refine (K25.out wx hR).mono ?_
        rintro e wG ⟨rfl, hbG⟩
        exact hK.out _ _ hbG rfl
      · intro A wx hR hout hdep K hK
        have h2 : A.tmps[2]?.getD undef = .int .u32 (x : Int) := hout 2 (by kernel_rfl)
        have h12 : A.tmps[12]?.getD undef = .bool true := hdep 12 (by kernel_rfl)
        refine if_yes ((wanted_is (j := 5) (b := true) (by kernel_rfl) (by kernel_rfl) h12).trans rfl) ?_
        simp [go_sem, h2, EQ, e2]
        exact hK.out _ _ (Below.refl _ _) rfl
      · intro A wx hR hout hdep K hK
        have h15 : A.tmps[15]?.getD undef = .int .u32 (WN : Int) := hdep 15 (by kernel_rfl)
        have h16 : A.tmps[16]?.getD undef = .int .u32 (x : Int) := hdep 16 (by kernel_rfl)
        have h12 : A.tmps[12]?.getD undef = .bool true := hdep 12 (by kernel_rfl)
        refine if_yes ((wanted_is (j := 5) (b := true) (by kernel_rfl) (by kernel_rfl) h12).trans rfl) ?_
        simp [go_sem, h15, h16, EQ, e2]
        exact hK.out _ _ (Below.refl _ _) rfl
      · intro A wx hR hout hdep K hK
        have h12 : A.tmps[12]?.getD undef = .bool true := hdep 12 (by kernel_rfl)
        have h17 : A.tmps[17]?.getD undef = .bool true := hdep 17 (by kernel_rfl)
        refine if_yes (by kernel_rfl) ?_
        simp [go_sem, h12, h17, EQ, e2]
        exact hK.out _ _ (Below.refl _ _) rfl
      · intro A wx hR hout hdep K hK
        have h18 : A.tmps[18]?.getD undef = .bool true := hdep 18 (by kernel_rfl)
        refine if_yes (by kernel_rfl) ?_
        simp [go_sem, h18, EQ, e2]
        exact hK.out _ _ (Below.refl _ _) rfl
      · intro A wx hR hout hdep K hK
        have h3 : A.tmps[3]?.getD undef = .pointer (some ⟨w.heap.size, 0, none⟩) := hout 3 (by kernel_rfl)
        have h19 : A.tmps[19]?.getD undef = .bool true := hdep 19 (by kernel_rfl)
        refine if_yes ((wanted_is (j := 12) (b := true) (by kernel_rfl) (by kernel_rfl) h19).trans rfl) ?_
        have c0 := keep_cell hR c0
        have c1 := keep_cell hR c1
        have c2 := keep_cell hR c2
        have c3 := keep_cell hR c3
        have c4 := keep_cell hR c4
        have c5 := keep_cell hR c5
        have d0 := keep_cell hR d0
        have d1 := keep_cell hR d1
        have d2 := keep_cell hR d2
        have d3 := keep_cell hR d3
        have d4 := keep_cell hR d4
        have d5 := keep_cell hR d5
        simp [go_sem, h3, c0, c1, c2, c3, c4, c5, d0, d1, d2, d3, d4, d5, EQ, e2]
        exact hK.out _ _ (Below.refl _ _) rfl
      · intro A wx hR hout hdep K hK
        have h4 : A.tmps[4]?.getD undef = .pointer (some ⟨w.heap.size + 1, 0, none⟩) := hout 4 (by kernel_rfl)
        have h19 : A.tmps[19]?.getD undef = .bool true := hdep 19 (by kernel_rfl)
        refine if_yes ((wanted_is (j := 12) (b := true) (by kernel_rfl) (by kernel_rfl) h19).trans rfl) ?_
        have c0 := keep_cell hR c0
        have c1 := keep_cell hR c1
        have c2 := keep_cell hR c2
        have c3 := keep_cell hR c3
        have c4 := keep_cell hR c4
        have c5 := keep_cell hR c5
        have d0 := keep_cell hR d0
        have d1 := keep_cell hR d1
        have d2 := keep_cell hR d2
        have d3 := keep_cell hR d3
        have d4 := keep_cell hR d4
        have d5 := keep_cell hR d5
        simp [go_sem, h4, c0, c1, c2, c3, c4, c5, d0, d1, d2, d3, d4, d5, EQ, e2]
        exact hK.out _ _ (Below.refl _ _) rfl
      · intro A wx hR hout hdep K hK
        have h20 : A.tmps[20]?.getD undef = .agg #[.string name, .int .u32 (op : Int), .int .u32 (same : Int), .string form, .int .u32 (few : Int), .int .u32 (great : Int)] := hdep 20 (by kernel_rfl)
        have h21 : A.tmps[21]?.getD undef = .agg #[.string nm, .int .i64 rs, .int .i64 rt, .int .i64 rd, .int .i64 sa, .int .u32 (imm : Int)] := hdep 21 (by kernel_rfl)
        have h19 : A.tmps[19]?.getD undef = .bool true := hdep 19 (by kernel_rfl)
        refine if_yes ((wanted_is (j := 12) (b := true) (by kernel_rfl) (by kernel_rfl) h19).trans rfl) ?_
        simp [go_sem, h20, h21, EQ, e2]
        refine (K29.out wx hR).mono ?_
        rintro e wG ⟨rfl, hbG⟩
        exact hK.out _ _ hbG rfl
      · intro A wx hR hout hdep K hK
        have h19 : A.tmps[19]?.getD undef = .bool true := hdep 19 (by kernel_rfl)
        have h22 : A.tmps[22]?.getD undef = .bool b3 := hdep 22 (by kernel_rfl)
        refine if_yes (by kernel_rfl) ?_
        simp [go_sem, h19, h22, EQ, e2]
        exact hK.out _ _ (Below.refl _ _) rfl
      · intro A wx hR hout hdep K hK
        have h23 : A.tmps[23]?.getD undef = .bool b3 := hdep 23 (by kernel_rfl)
        refine if_yes (by kernel_rfl) ?_
        simp [go_sem, h23, EQ, e2]
        exact hK.out _ _ (Below.refl _ _) rfl
      simp only [putSl, Act.put, List.setIfInBounds_toArray, List.set_cons_zero, List.set_cons_succ, show f 6 = .bool b3 from hf 6 (by kernel_rfl)]
      have HBE : Hid (Below w.heap.size w wy) := below_tr HB.out hR
      go_wp2
      go_ret
      exact ⟨rfl, HBE.out⟩
end Go.Proofs.YtglkkeelocdanaaDoor
