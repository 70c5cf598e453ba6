/- What is proved here: the document's 'can an instruction be?'. -/
import Derived.Test.YtglkkeelocdanaaGreatDoorDr
import Derived.Test.YtglkkeelocdanaaGreatDoorSr
namespace Go.Proofs.YtglkkeelocdanaaGreatDoor
open Go.RowKit
set_option linter.unusedVariables false
set_option linter.unusedSimpArgs false
set_option maxRecDepth 100000
/-- Can an instruction be, by the document? -/
def fitD (i : In) (r : Dr) : Bool := !(r.form.toList.isEmpty) && (fitsB i.rs (regsD r.form).1 && (fitsB i.rt (regsD r.form).2.1 && (fitsB i.rd (regsD r.form).2.2.1 && (fitsB i.sa (regsD r.form).2.2.2 && (!(decide (2 ^ wideN r.form ≤ i.imm)) && (!((r.form.toList == [116, 100]) && !(i.rd == 29)) && ((!(i.name.toList == [101, 120, 116]) || decide (wrap64 (i.rd + i.sa) ≤ 31)) && (!(i.name.toList == [105, 110, 115]) || decide (i.sa ≤ i.rd)))))))))
theorem wanted_undef {ops : Array Oper} {o : Oper} {A : Act} {j t : Nat} {b : Bool} (hg : o.guard = some (j, b)) (hd : (ops[j]?).bind (·.dst) = some t) (hv : A.tmps[t]?.getD undef = undef) : Region.wanted o (yielded ops A.tmps) = false := by
  unfold Region.wanted yielded
  simp only [hg, hd, Option.bind_some]
  cases h : A.tmps[t]? with
  | none => rfl
  | some v => rw [h] at hv; simp at hv; subst hv; rfl
theorem wide_le (f : ByteArray) : wideN f ≤ 26 := by
  unfold wideN
  repeat' split
  all_goals omega
theorem box64 (w : World) (a b c d e f x0 x1 x2 x3 : Value) (t u : Nat) : ∃ W, (w.alloc (.cells #[a, b, c, d, e, f] t)).alloc (.cells #[x0, x1, x2, x3] u) = W ∧ Below w.heap.size w W ∧
    (W.cell? ⟨w.heap.size, 0, none⟩ = some a ∧ W.cell? ⟨w.heap.size, 1, none⟩ = some b ∧ W.cell? ⟨w.heap.size, 2, none⟩ = some c ∧ W.cell? ⟨w.heap.size, 3, none⟩ = some d ∧ W.cell? ⟨w.heap.size, 4, none⟩ = some e ∧ W.cell? ⟨w.heap.size, 5, none⟩ = some f) ∧
    (W.cell? ⟨w.heap.size + 1, 0, none⟩ = some x0 ∧ W.cell? ⟨w.heap.size + 1, 1, none⟩ = some x1 ∧ W.cell? ⟨w.heap.size + 1, 2, none⟩ = some x2 ∧ W.cell? ⟨w.heap.size + 1, 3, none⟩ = some x3) := by
  have hz : w.heap.size + 1 = (w.alloc (.cells #[a, b, c, d, e, f] t)).heap.size := by simp
  refine ⟨_, rfl, ((Below.refl _ _).alloc (Nat.le_refl _) _).alloc (by simp) _, ⟨?_, ?_, ?_, ?_, ?_, ?_⟩, ⟨?_, ?_, ?_, ?_⟩⟩
  all_goals first | exact cell_old (cell_newA w _ _ _ _ _ rfl rfl) _ | exact cell_newA _ _ _ _ _ _ hz rfl
set_option maxHeartbeats 2000000 in
theorem fit26 (i : In) (r : Dr) (hf : r.form.size < 9223372036854775807) (w : World) : Calls Tryz.prog 41 #[i.val, r.val] w fun e w' => e = .returned (.bool (fitD i r)) ∧ Below w.heap.size w w' := by
  have HE : Hid (fitD i r = (!(r.form.toList.isEmpty) && (fitsB i.rs (regsD r.form).1 && (fitsB i.rt (regsD r.form).2.1 && (fitsB i.rd (regsD r.form).2.2.1 && (fitsB i.sa (regsD r.form).2.2.2 && (!(decide (2 ^ wideN r.form ≤ i.imm)) && (!((r.form.toList == [116, 100]) && !(i.rd == 29)) && ((!(i.name.toList == [101, 120, 116]) || decide (wrap64 (i.rd + i.sa) ≤ 31)) && (!(i.name.toList == [105, 110, 115]) || decide (i.sa ≤ i.rd))))))))))) := rfl
  obtain ⟨W, hW, hb, hd, hx⟩ := box64 w (.string i.name) (.int .i64 i.rs) (.int .i64 i.rt) (.int .i64 i.rd) (.int .i64 i.sa) (.int .u32 (i.imm : Int)) (.int .u32 (r.op : Int)) (.int .u32 (r.sub : Int)) (.int .u32 (r.sa : Int)) (.string r.form) 24 72
  have K32 := registers32 r.form hf W
  have F1 : Hid (∀ w', Calls Tryz.prog 76 #[.int .i64 i.rs, .bool (regsD r.form).1] w' fun e w'' => e = .returned (.bool (fitsB i.rs (regsD r.form).1)) ∧ w'' = w') := fun w' => fits35 _ _ w'
  have F2 : Hid (∀ w', Calls Tryz.prog 76 #[.int .i64 i.rt, .bool (regsD r.form).2.1] w' fun e w'' => e = .returned (.bool (fitsB i.rt (regsD r.form).2.1)) ∧ w'' = w') := fun w' => fits35 _ _ w'
  have F3 : Hid (∀ w', Calls Tryz.prog 76 #[.int .i64 i.rd, .bool (regsD r.form).2.2.1] w' fun e w'' => e = .returned (.bool (fitsB i.rd (regsD r.form).2.2.1)) ∧ w'' = w') := fun w' => fits35 _ _ w'
  have F4 : Hid (∀ w', Calls Tryz.prog 76 #[.int .i64 i.sa, .bool (regsD r.form).2.2.2] w' fun e w'' => e = .returned (.bool (fitsB i.sa (regsD r.form).2.2.2)) ∧ w'' = w') := fun w' => fits35 _ _ w'
  have K33 : Hid (∀ w', Calls Tryz.prog 77 #[.string r.form] w' fun e w'' => e = .returned (.int .u32 (wideN r.form : Int)) ∧ w'' = w') := fun w' => wide33 _ w'
  have hwl := wide_le r.form
  generalize fitsB i.rs (regsD r.form).1 = g1 at HE F1
  generalize fitsB i.rt (regsD r.form).2.1 = g2 at HE F2
  generalize fitsB i.rd (regsD r.form).2.2.1 = g3 at HE F3
  generalize fitsB i.sa (regsD r.form).2.2.2 = g4 at HE F4
  generalize fitD i r = Z at HE ⊢
  generalize wideN r.form = WD at HE K33 hwl
  generalize regsD r.form = RG at K32 F1 F2 F3 F4
  obtain ⟨b1, b2, b3, b4⟩ := RG
  obtain ⟨name, rs, rt, rd, sa, imm⟩ := i
  obtain ⟨op, sub, dsa, form⟩ := r
  simp only [In.val, Dr.val, regV] at K32 F1 F2 F3 F4 K33 HE hd hx hW ⊢
  obtain ⟨d0, d1, d2, d3, d4, d5⟩ := hd
  obtain ⟨x0, x1, x2, x3⟩ := hx
  obtain ⟨PW, hPW⟩ : ∃ z, z = 2 ^ WD := ⟨_, rfl⟩
  have hPl : PW < 4294967296 := by
    rw [hPW]
    have := Nat.pow_le_pow_right (n := 2) (by decide) hwl
    omega
  have hmin : min WD 32 = WD := by omega
  have m0 : ((2 : Int) ^ WD) = (PW : Int) := by rw [hPW]; simp
  have m1 : IntKind.u32.wrap ((2 : Int) ^ min WD 32) = (PW : Int) := by rw [hmin, m0, IntKind.wrap_u32]; omega
  have m2 : IntKind.u32.wrap (1 * (2 : Int) ^ min WD 32) = (PW : Int) := by rw [Int.one_mul]; exact m1
  have m3 : (2 : Int) ^ min WD 32 % 4294967296 = (PW : Int) := by rw [hmin, m0]; omega
  have m4 : 1 * (2 : Int) ^ min WD 32 % 4294967296 = (PW : Int) := by rw [Int.one_mul]; exact m3
  rw [← hPW] at HE
  have HB : Hid (Below w.heap.size w W) := hb
  clear hb hPW hPl hmin m0 hwl hf
  cases e0 : form.toList.isEmpty with
  | true =>
    have HZ : Hid (Z = false) := by show _ = _; rw [HE.out, e0]; rfl
    clear HE
    go_enter Tryz.func41, Tryz.ntmps41
    go_wp2_with fail
    refine K32.mono ?_
    rintro e w1 ⟨rfl, hb1⟩
    obtain ⟨w2, hw2, hb2, _, y0, y1, y2, y3, _⟩ := box4 w1 (.bool b1) (.bool b2) (.bool b3) (.bool b4) 112
    have hb12 := below_tr hb1 hb2
    have HBE : Hid (Below w.heap.size w w2) := below_tr HB.out hb12
    have d0 := keep_cell hb12 d0
    have d1 := keep_cell hb12 d1
    have d2 := keep_cell hb12 d2
    have d3 := keep_cell hb12 d3
    have d4 := keep_cell hb12 d4
    have d5 := keep_cell hb12 d5
    have x3 := keep_cell hb12 x3
    clear K32 hb1 hb2 hb12 x0 x1 x2
    go_wp2
    go_ret
    exact ⟨by rw [HZ.out]; rfl, HBE.out⟩
  | false =>
    go_enter Tryz.func41, Tryz.ntmps41
    go_wp2_with fail
    refine K32.mono ?_
    rintro e w1 ⟨rfl, hb1⟩
    obtain ⟨w2, hw2, hb2, _, y0, y1, y2, y3, _⟩ := box4 w1 (.bool b1) (.bool b2) (.bool b3) (.bool b4) 112
    have hb12 := below_tr hb1 hb2
    have HBE : Hid (Below w.heap.size w w2) := below_tr HB.out hb12
    have d0 := keep_cell hb12 d0
    have d1 := keep_cell hb12 d1
    have d2 := keep_cell hb12 d2
    have d3 := keep_cell hb12 d3
    have d4 := keep_cell hb12 d4
    have d5 := keep_cell hb12 d5
    have x3 := keep_cell hb12 x3
    clear K32 hb1 hb2 hb12 x0 x1 x2
    have Q1 := F1.out w2
    go_wp2_with fail
    refine Q1.mono ?_
    rintro e w3 ⟨rfl, rfl⟩
    clear Q1 F1
    cases g1 with
    | false =>
      have HZ : Hid (Z = false) := by show _ = _; rw [HE.out, e0]; rfl
      clear HE
      go_wp2
      go_ret
      exact ⟨by rw [HZ.out]; rfl, HBE.out⟩
    | true =>
      have Q2 := F2.out w3
      go_wp2_with fail
      refine Q2.mono ?_
      rintro e w4 ⟨rfl, rfl⟩
      clear Q2 F2
      cases g2 with
      | false =>
        have HZ : Hid (Z = false) := by show _ = _; rw [HE.out, e0]; rfl
        clear HE
        go_wp2
        go_ret
        exact ⟨by rw [HZ.out]; rfl, HBE.out⟩
      | true =>
        have Q3 := F3.out w4
        go_wp2_with fail
        refine Q3.mono ?_
        rintro e w5 ⟨rfl, rfl⟩
        clear Q3 F3
        cases g3 with
        | false =>
          have HZ : Hid (Z = false) := by show _ = _; rw [HE.out, e0]; rfl
          clear HE
          go_wp2
          go_ret
          exact ⟨by rw [HZ.out]; rfl, HBE.out⟩
        | true =>
          have Q4 := F4.out w5
          go_wp2_with fail
          refine Q4.mono ?_
          rintro e w6 ⟨rfl, rfl⟩
          clear Q4 F4
          cases g4 with
          | false =>
            have HZ : Hid (Z = false) := by show _ = _; rw [HE.out, e0]; rfl
            clear HE
            go_wp2
            go_ret
            exact ⟨by rw [HZ.out]; rfl, HBE.out⟩
          | true =>
            cases hge : decide (PW ≤ imm) with
            | true =>
              have hge2 : decide ((PW : Int) ≤ (imm : Int)) = true := by rw [← hge]; congr 1; simp
              have htd : True := trivial
              have hrn : True := trivial
              have HZ : Hid (Z = false) := by show _ = _; rw [HE.out, e0, hge]; rfl
              clear HE
              go_wp2
              refine wp_region_slots (R := Ext) [⟨44, fun v _ => v = .pointer (some ⟨w.heap.size, 5, none⟩), fun _ _ _ _ h => h⟩, ⟨45, fun v _ => v = .int .u32 (imm : Int), fun _ _ _ _ h => h⟩, ⟨46, fun v _ => v = .pointer (some ⟨w.heap.size + 1, 3, none⟩), fun _ _ _ _ h => h⟩, ⟨47, fun v _ => v = .string form, fun _ _ _ _ h => h⟩, ⟨48, fun v _ => v = .int .u32 (WD : Int), fun _ _ _ _ h => h⟩, ⟨49, fun v _ => v = .int .u32 (PW : Int), fun _ _ _ _ h => h⟩, ⟨50, fun v _ => v = .bool true, fun _ _ _ _ h => h⟩, ⟨51, fun v _ => v = .bool true, fun _ _ _ _ h => h⟩, ⟨52, fun v _ => v = undef, fun _ _ _ _ h => h⟩, ⟨53, fun v _ => v = undef, fun _ _ _ _ h => h⟩, ⟨54, fun v _ => v = undef, fun _ _ _ _ h => h⟩, ⟨55, fun v _ => v = undef, fun _ _ _ _ h => h⟩, ⟨56, fun v _ => v = undef, fun _ _ _ _ h => h⟩, ⟨57, fun v _ => v = undef, fun _ _ _ _ h => h⟩, ⟨58, fun v _ => v = undef, fun _ _ _ _ h => h⟩, ⟨59, fun v _ => v = undef, fun _ _ _ _ h => h⟩, ⟨60, fun v _ => v = .bool true, fun _ _ _ _ h => h⟩] _ (by kernel_rfl) rfl (by kernel_rfl) (Below.drew (Below.refl _ _)) (fun _ _ _ h1 h2 => below_tr h1 h2) (fun QQ => ⟨?_, ?_, ?_, ?_, ?_, ?_, ?_, ?_, ?_, ?_, ?_, ?_, ?_, ?_, ?_, ?_, ?_, trivial⟩) (fun f wy hR hf => ?_)
              · intro A wx hR hout hdep K hK
                have h2 : A.tmps[2]?.getD undef = .pointer (some ⟨w.heap.size, 0, none⟩) := hout 2 (by kernel_rfl)
                refine if_yes (by kernel_rfl) ?_
                simp [go_sem, h2, m1, m2, m3, m4, hge, hge2, htd, hrn]
                exact hK.out _ _ (Below.refl _ _) rfl
              · intro A wx hR hout hdep K hK
                have h44 : A.tmps[44]?.getD undef = .pointer (some ⟨w.heap.size, 5, none⟩) := hdep 44 (by kernel_rfl)
                refine if_yes (by kernel_rfl) ?_
                have d3 := keep_cell hR d3
                have d5 := keep_cell hR d5
                have x3 := keep_cell hR x3
                simp [go_sem, h44, d3, d5, x3, m1, m2, m3, m4, hge, hge2, htd, hrn]
                exact hK.out _ _ (Below.refl _ _) rfl
              · intro A wx hR hout hdep K hK
                have h3 : A.tmps[3]?.getD undef = .pointer (some ⟨w.heap.size + 1, 0, none⟩) := hout 3 (by kernel_rfl)
                refine if_yes (by kernel_rfl) ?_
                simp [go_sem, h3, m1, m2, m3, m4, hge, hge2, htd, hrn]
                exact hK.out _ _ (Below.refl _ _) rfl
              · intro A wx hR hout hdep K hK
                have h46 : A.tmps[46]?.getD undef = .pointer (some ⟨w.heap.size + 1, 3, none⟩) := hdep 46 (by kernel_rfl)
                refine if_yes (by kernel_rfl) ?_
                have d3 := keep_cell hR d3
                have d5 := keep_cell hR d5
                have x3 := keep_cell hR x3
                simp [go_sem, h46, d3, d5, x3, m1, m2, m3, m4, hge, hge2, htd, hrn]
                exact hK.out _ _ (Below.refl _ _) rfl
              · intro A wx hR hout hdep K hK
                have h47 : A.tmps[47]?.getD undef = .string form := hdep 47 (by kernel_rfl)
                refine if_yes (by kernel_rfl) ?_
                simp [go_sem, h47, m1, m2, m3, m4, hge, hge2, htd, hrn]
                refine (K33.out wx).mono ?_
                rintro e wG ⟨rfl, rfl⟩
                exact hK.out _ _ (Below.refl _ _) rfl
              · intro A wx hR hout hdep K hK
                have h48 : A.tmps[48]?.getD undef = .int .u32 (WD : Int) := hdep 48 (by kernel_rfl)
                refine if_yes (by kernel_rfl) ?_
                simp [go_sem, h48, m1, m2, m3, m4, hge, hge2, htd, hrn]
                exact hK.out _ _ (Below.refl _ _) rfl
              · intro A wx hR hout hdep K hK
                have h45 : A.tmps[45]?.getD undef = .int .u32 (imm : Int) := hdep 45 (by kernel_rfl)
                have h49 : A.tmps[49]?.getD undef = .int .u32 (PW : Int) := hdep 49 (by kernel_rfl)
                refine if_yes (by kernel_rfl) ?_
                simp [go_sem, h45, h49, m1, m2, m3, m4, hge, hge2, htd, hrn]
                exact hK.out _ _ (Below.refl _ _) rfl
              · intro A wx hR hout hdep K hK
                have h50 : A.tmps[50]?.getD undef = .bool true := hdep 50 (by kernel_rfl)
                refine if_yes (by kernel_rfl) ?_
                simp [go_sem, h50, m1, m2, m3, m4, hge, hge2, htd, hrn]
                exact hK.out _ _ (Below.refl _ _) rfl
              · intro A wx hR hout hdep K hK
                have h3 : A.tmps[3]?.getD undef = .pointer (some ⟨w.heap.size + 1, 0, none⟩) := hout 3 (by kernel_rfl)
                have h51 : A.tmps[51]?.getD undef = .bool true := hdep 51 (by kernel_rfl)
                refine if_not (by rw [wanted_is (j := 7) (b := false) (by kernel_rfl) (by kernel_rfl) h51]; decide) ?_
                exact hK.out _ _ (Below.refl _ _) rfl
              · intro A wx hR hout hdep K hK
                have h52 : A.tmps[52]?.getD undef = undef := hdep 52 (by kernel_rfl)
                have h51 : A.tmps[51]?.getD undef = .bool true := hdep 51 (by kernel_rfl)
                refine if_not (by rw [wanted_is (j := 7) (b := false) (by kernel_rfl) (by kernel_rfl) h51]; decide) ?_
                exact hK.out _ _ (Below.refl _ _) rfl
              · intro A wx hR hout hdep K hK
                have h53 : A.tmps[53]?.getD undef = undef := hdep 53 (by kernel_rfl)
                have h51 : A.tmps[51]?.getD undef = .bool true := hdep 51 (by kernel_rfl)
                refine if_not (by rw [wanted_is (j := 7) (b := false) (by kernel_rfl) (by kernel_rfl) h51]; decide) ?_
                exact hK.out _ _ (Below.refl _ _) rfl
              · intro A wx hR hout hdep K hK
                have h54 : A.tmps[54]?.getD undef = undef := hdep 54 (by kernel_rfl)
                have h51 : A.tmps[51]?.getD undef = .bool true := hdep 51 (by kernel_rfl)
                refine if_not (by rw [wanted_is (j := 7) (b := false) (by kernel_rfl) (by kernel_rfl) h51]; decide) ?_
                exact hK.out _ _ (Below.refl _ _) rfl
              · intro A wx hR hout hdep K hK
                have h2 : A.tmps[2]?.getD undef = .pointer (some ⟨w.heap.size, 0, none⟩) := hout 2 (by kernel_rfl)
                have h55 : A.tmps[55]?.getD undef = undef := hdep 55 (by kernel_rfl)
                refine if_not (by rw [wanted_undef (j := 11) (b := true) (by kernel_rfl) (by kernel_rfl) h55]; decide) ?_
                exact hK.out _ _ (Below.refl _ _) rfl
              · intro A wx hR hout hdep K hK
                have h56 : A.tmps[56]?.getD undef = undef := hdep 56 (by kernel_rfl)
                have h55 : A.tmps[55]?.getD undef = undef := hdep 55 (by kernel_rfl)
                refine if_not (by rw [wanted_undef (j := 11) (b := true) (by kernel_rfl) (by kernel_rfl) h55]; decide) ?_
                exact hK.out _ _ (Below.refl _ _) rfl
              · intro A wx hR hout hdep K hK
                have h57 : A.tmps[57]?.getD undef = undef := hdep 57 (by kernel_rfl)
                have h55 : A.tmps[55]?.getD undef = undef := hdep 55 (by kernel_rfl)
                refine if_not (by rw [wanted_undef (j := 11) (b := true) (by kernel_rfl) (by kernel_rfl) h55]; decide) ?_
                exact hK.out _ _ (Below.refl _ _) rfl
              · intro A wx hR hout hdep K hK
                have h55 : A.tmps[55]?.getD undef = undef := hdep 55 (by kernel_rfl)
                have h58 : A.tmps[58]?.getD undef = undef := hdep 58 (by kernel_rfl)
                have h51 : A.tmps[51]?.getD undef = .bool true := hdep 51 (by kernel_rfl)
                refine if_not (by rw [wanted_is (j := 7) (b := false) (by kernel_rfl) (by kernel_rfl) h51]; decide) ?_
                exact hK.out _ _ (Below.refl _ _) rfl
              · intro A wx hR hout hdep K hK
                have h51 : A.tmps[51]?.getD undef = .bool true := hdep 51 (by kernel_rfl)
                have h59 : A.tmps[59]?.getD undef = undef := hdep 59 (by kernel_rfl)
                refine if_yes (by kernel_rfl) ?_
                simp [go_sem, h51, h59, m1, m2, m3, m4, hge, hge2, htd, hrn]
                exact hK.out _ _ (Below.refl _ _) rfl
              simp only [putSl, Act.put, List.setIfInBounds_toArray, List.set_cons_zero, List.set_cons_succ, show f 60 = .bool true from hf 60 (by kernel_rfl)]
              have HBY : Hid (Below w.heap.size w wy) := below_tr HBE.out hR
              go_wp2
              go_ret
              exact ⟨by rw [HZ.out]; rfl, HBY.out⟩
            | false =>
              have hge2 : decide ((PW : Int) ≤ (imm : Int)) = false := by rw [← hge]; congr 1; simp
              have tail : ∀ (wy : World), Below w6.heap.size w6 wy → (wy.cell? ⟨w.heap.size, 0, none⟩ = some (.string name) ∧ wy.cell? ⟨w.heap.size, 3, none⟩ = some (.int .i64 rd) ∧ wy.cell? ⟨w.heap.size, 4, none⟩ = some (.int .i64 sa)) := fun wy h => ⟨keep_cell h d0, keep_cell h d3, keep_cell h d4⟩
              have TAIL : Hid _ := tail
              clear tail
              cases htd : (form.toList == [116, 100]) with
              | false =>
                have hrn : True := trivial
                have HZ : Hid (Z = ((!(name.toList == [101, 120, 116]) || decide (wrap64 (rd + sa) ≤ 31)) && (!(name.toList == [105, 110, 115]) || decide (sa ≤ rd)))) := by show _ = _; rw [HE.out, e0, hge, htd]; simp
                clear HE
                go_wp2
                refine wp_region_slots (R := Ext) [⟨44, fun v _ => v = .pointer (some ⟨w.heap.size, 5, none⟩), fun _ _ _ _ h => h⟩, ⟨45, fun v _ => v = .int .u32 (imm : Int), fun _ _ _ _ h => h⟩, ⟨46, fun v _ => v = .pointer (some ⟨w.heap.size + 1, 3, none⟩), fun _ _ _ _ h => h⟩, ⟨47, fun v _ => v = .string form, fun _ _ _ _ h => h⟩, ⟨48, fun v _ => v = .int .u32 (WD : Int), fun _ _ _ _ h => h⟩, ⟨49, fun v _ => v = .int .u32 (PW : Int), fun _ _ _ _ h => h⟩, ⟨50, fun v _ => v = .bool false, fun _ _ _ _ h => h⟩, ⟨51, fun v _ => v = .bool false, fun _ _ _ _ h => h⟩, ⟨52, fun v _ => v = .pointer (some ⟨w.heap.size + 1, 3, none⟩), fun _ _ _ _ h => h⟩, ⟨53, fun v _ => v = .string form, fun _ _ _ _ h => h⟩, ⟨54, fun v _ => v = .bool false, fun _ _ _ _ h => h⟩, ⟨55, fun v _ => v = .bool false, fun _ _ _ _ h => h⟩, ⟨56, fun v _ => v = undef, fun _ _ _ _ h => h⟩, ⟨57, fun v _ => v = undef, fun _ _ _ _ h => h⟩, ⟨58, fun v _ => v = undef, fun _ _ _ _ h => h⟩, ⟨59, fun v _ => v = .bool false, fun _ _ _ _ h => h⟩, ⟨60, fun v _ => v = .bool false, fun _ _ _ _ h => h⟩] _ (by kernel_rfl) rfl (by kernel_rfl) (Below.drew (Below.refl _ _)) (fun _ _ _ h1 h2 => below_tr h1 h2) (fun QQ => ⟨?_, ?_, ?_, ?_, ?_, ?_, ?_, ?_, ?_, ?_, ?_, ?_, ?_, ?_, ?_, ?_, ?_, trivial⟩) (fun f wy hR hf => ?_)
                · intro A wx hR hout hdep K hK
                  have h2 : A.tmps[2]?.getD undef = .pointer (some ⟨w.heap.size, 0, none⟩) := hout 2 (by kernel_rfl)
                  refine if_yes (by kernel_rfl) ?_
                  simp [go_sem, h2, m1, m2, m3, m4, hge, hge2, htd, hrn]
                  exact hK.out _ _ (Below.refl _ _) rfl
                · intro A wx hR hout hdep K hK
                  have h44 : A.tmps[44]?.getD undef = .pointer (some ⟨w.heap.size, 5, none⟩) := hdep 44 (by kernel_rfl)
                  refine if_yes (by kernel_rfl) ?_
                  have d3 := keep_cell hR d3
                  have d5 := keep_cell hR d5
                  have x3 := keep_cell hR x3
                  simp [go_sem, h44, d3, d5, x3, m1, m2, m3, m4, hge, hge2, htd, hrn]
                  exact hK.out _ _ (Below.refl _ _) rfl
                · intro A wx hR hout hdep K hK
                  have h3 : A.tmps[3]?.getD undef = .pointer (some ⟨w.heap.size + 1, 0, none⟩) := hout 3 (by kernel_rfl)
                  refine if_yes (by kernel_rfl) ?_
                  simp [go_sem, h3, m1, m2, m3, m4, hge, hge2, htd, hrn]
                  exact hK.out _ _ (Below.refl _ _) rfl
                · intro A wx hR hout hdep K hK
                  have h46 : A.tmps[46]?.getD undef = .pointer (some ⟨w.heap.size + 1, 3, none⟩) := hdep 46 (by kernel_rfl)
                  refine if_yes (by kernel_rfl) ?_
                  have d3 := keep_cell hR d3
                  have d5 := keep_cell hR d5
                  have x3 := keep_cell hR x3
                  simp [go_sem, h46, d3, d5, x3, m1, m2, m3, m4, hge, hge2, htd, hrn]
                  exact hK.out _ _ (Below.refl _ _) rfl
                · intro A wx hR hout hdep K hK
                  have h47 : A.tmps[47]?.getD undef = .string form := hdep 47 (by kernel_rfl)
                  refine if_yes (by kernel_rfl) ?_
                  simp [go_sem, h47, m1, m2, m3, m4, hge, hge2, htd, hrn]
                  refine (K33.out wx).mono ?_
                  rintro e wG ⟨rfl, rfl⟩
                  exact hK.out _ _ (Below.refl _ _) rfl
                · intro A wx hR hout hdep K hK
                  have h48 : A.tmps[48]?.getD undef = .int .u32 (WD : Int) := hdep 48 (by kernel_rfl)
                  refine if_yes (by kernel_rfl) ?_
                  simp [go_sem, h48, m1, m2, m3, m4, hge, hge2, htd, hrn]
                  exact hK.out _ _ (Below.refl _ _) rfl
                · intro A wx hR hout hdep K hK
                  have h45 : A.tmps[45]?.getD undef = .int .u32 (imm : Int) := hdep 45 (by kernel_rfl)
                  have h49 : A.tmps[49]?.getD undef = .int .u32 (PW : Int) := hdep 49 (by kernel_rfl)
                  refine if_yes (by kernel_rfl) ?_
                  simp [go_sem, h45, h49, m1, m2, m3, m4, hge, hge2, htd, hrn]
                  exact hK.out _ _ (Below.refl _ _) rfl
                · intro A wx hR hout hdep K hK
                  have h50 : A.tmps[50]?.getD undef = .bool false := hdep 50 (by kernel_rfl)
                  refine if_yes (by kernel_rfl) ?_
                  simp [go_sem, h50, m1, m2, m3, m4, hge, hge2, htd, hrn]
                  exact hK.out _ _ (Below.refl _ _) rfl
                · intro A wx hR hout hdep K hK
                  have h3 : A.tmps[3]?.getD undef = .pointer (some ⟨w.heap.size + 1, 0, none⟩) := hout 3 (by kernel_rfl)
                  have h51 : A.tmps[51]?.getD undef = .bool false := hdep 51 (by kernel_rfl)
                  refine if_yes ((wanted_is (j := 7) (b := false) (by kernel_rfl) (by kernel_rfl) h51).trans rfl) ?_
                  simp [go_sem, h3, m1, m2, m3, m4, hge, hge2, htd, hrn]
                  exact hK.out _ _ (Below.refl _ _) rfl
                · intro A wx hR hout hdep K hK
                  have h52 : A.tmps[52]?.getD undef = .pointer (some ⟨w.heap.size + 1, 3, none⟩) := hdep 52 (by kernel_rfl)
                  have h51 : A.tmps[51]?.getD undef = .bool false := hdep 51 (by kernel_rfl)
                  refine if_yes ((wanted_is (j := 7) (b := false) (by kernel_rfl) (by kernel_rfl) h51).trans rfl) ?_
                  have d3 := keep_cell hR d3
                  have d5 := keep_cell hR d5
                  have x3 := keep_cell hR x3
                  simp [go_sem, h52, d3, d5, x3, m1, m2, m3, m4, hge, hge2, htd, hrn]
                  exact hK.out _ _ (Below.refl _ _) rfl
                · intro A wx hR hout hdep K hK
                  have h53 : A.tmps[53]?.getD undef = .string form := hdep 53 (by kernel_rfl)
                  have h51 : A.tmps[51]?.getD undef = .bool false := hdep 51 (by kernel_rfl)
                  refine if_yes ((wanted_is (j := 7) (b := false) (by kernel_rfl) (by kernel_rfl) h51).trans rfl) ?_
                  simp [go_sem, h53, m1, m2, m3, m4, hge, hge2, htd, hrn]
                  exact hK.out _ _ (Below.refl _ _) rfl
                · intro A wx hR hout hdep K hK
                  have h54 : A.tmps[54]?.getD undef = .bool false := hdep 54 (by kernel_rfl)
                  have h51 : A.tmps[51]?.getD undef = .bool false := hdep 51 (by kernel_rfl)
                  refine if_yes ((wanted_is (j := 7) (b := false) (by kernel_rfl) (by kernel_rfl) h51).trans rfl) ?_
                  simp [go_sem, h54, m1, m2, m3, m4, hge, hge2, htd, hrn]
                  exact hK.out _ _ (Below.refl _ _) rfl
                · intro A wx hR hout hdep K hK
                  have h2 : A.tmps[2]?.getD undef = .pointer (some ⟨w.heap.size, 0, none⟩) := hout 2 (by kernel_rfl)
                  have h55 : A.tmps[55]?.getD undef = .bool false := hdep 55 (by kernel_rfl)
                  refine if_not (by rw [wanted_is (j := 11) (b := true) (by kernel_rfl) (by kernel_rfl) h55]; decide) ?_
                  exact hK.out _ _ (Below.refl _ _) rfl
                · intro A wx hR hout hdep K hK
                  have h56 : A.tmps[56]?.getD undef = undef := hdep 56 (by kernel_rfl)
                  have h55 : A.tmps[55]?.getD undef = .bool false := hdep 55 (by kernel_rfl)
                  refine if_not (by rw [wanted_is (j := 11) (b := true) (by kernel_rfl) (by kernel_rfl) h55]; decide) ?_
                  exact hK.out _ _ (Below.refl _ _) rfl
                · intro A wx hR hout hdep K hK
                  have h57 : A.tmps[57]?.getD undef = undef := hdep 57 (by kernel_rfl)
                  have h55 : A.tmps[55]?.getD undef = .bool false := hdep 55 (by kernel_rfl)
                  refine if_not (by rw [wanted_is (j := 11) (b := true) (by kernel_rfl) (by kernel_rfl) h55]; decide) ?_
                  exact hK.out _ _ (Below.refl _ _) rfl
                · intro A wx hR hout hdep K hK
                  have h55 : A.tmps[55]?.getD undef = .bool false := hdep 55 (by kernel_rfl)
                  have h58 : A.tmps[58]?.getD undef = undef := hdep 58 (by kernel_rfl)
                  have h51 : A.tmps[51]?.getD undef = .bool false := hdep 51 (by kernel_rfl)
                  refine if_yes ((wanted_is (j := 7) (b := false) (by kernel_rfl) (by kernel_rfl) h51).trans rfl) ?_
                  simp [go_sem, h55, h58, m1, m2, m3, m4, hge, hge2, htd, hrn]
                  exact hK.out _ _ (Below.refl _ _) rfl
                · intro A wx hR hout hdep K hK
                  have h51 : A.tmps[51]?.getD undef = .bool false := hdep 51 (by kernel_rfl)
                  have h59 : A.tmps[59]?.getD undef = .bool false := hdep 59 (by kernel_rfl)
                  refine if_yes (by kernel_rfl) ?_
                  simp [go_sem, h51, h59, m1, m2, m3, m4, hge, hge2, htd, hrn]
                  exact hK.out _ _ (Below.refl _ _) rfl
                simp only [putSl, Act.put, List.setIfInBounds_toArray, List.set_cons_zero, List.set_cons_succ, show f 60 = .bool false from hf 60 (by kernel_rfl)]
                have HBY : Hid (Below w.heap.size w wy) := below_tr HBE.out hR
                obtain ⟨t0, t3, t4⟩ := TAIL.out wy hR
                clear hf hR TAIL m1 m2 m3 m4 hge hge2 htd hrn d0 d1 d2 d3 d4 d5 x3 y0 y1 y2 y3 K33
                cases n1 : (name.toList == [101, 120, 116]) with
                | true =>
                  have n2 : (name.toList == [105, 110, 115]) = false := by
                    have : name.toList = [101, 120, 116] := by simpa using n1
                    rw [this]; decide
                  have HZ2 : Hid (Z = decide (wrap64 (rd + sa) ≤ 31)) := by show _ = _; rw [HZ.out, n1, n2]; simp
                  cases hle : decide (wrap64 (rd + sa) ≤ 31) with
                  | true =>
                    have HZ3 : Hid (Z = true) := by show _ = _; rw [HZ2.out, hle]
                    clear HZ HZ2
                    go_wp2
                    go_ret
                    exact ⟨by rw [HZ3.out]; rfl, HBY.out⟩
                  | false =>
                    have HZ3 : Hid (Z = false) := by show _ = _; rw [HZ2.out, hle]
                    clear HZ HZ2
                    go_wp2
                    go_ret
                    exact ⟨by rw [HZ3.out]; rfl, HBY.out⟩
                | false =>
                  cases n2 : (name.toList == [105, 110, 115]) with
                  | true =>
                    have HZ2 : Hid (Z = decide (sa ≤ rd)) := by show _ = _; rw [HZ.out, n1, n2]; simp
                    clear HZ
                    go_wp2
                    go_ret
                    exact ⟨by rw [HZ2.out]; rfl, HBY.out⟩
                  | false =>
                    have HZ2 : Hid (Z = true) := by show _ = _; rw [HZ.out, n1, n2]; simp
                    clear HZ
                    go_wp2
                    go_ret
                    exact ⟨by rw [HZ2.out]; rfl, HBY.out⟩
              | true =>
                cases hrn : (rd != 29) with
                | true =>
                  have HZ : Hid (Z = false) := by
                    show _ = _
                    have : (rd == 29) = false := by simpa using hrn
                    rw [HE.out, e0, hge, htd, this]; rfl
                  clear HE
                  go_wp2
                  refine wp_region_slots (R := Ext) [⟨44, fun v _ => v = .pointer (some ⟨w.heap.size, 5, none⟩), fun _ _ _ _ h => h⟩, ⟨45, fun v _ => v = .int .u32 (imm : Int), fun _ _ _ _ h => h⟩, ⟨46, fun v _ => v = .pointer (some ⟨w.heap.size + 1, 3, none⟩), fun _ _ _ _ h => h⟩, ⟨47, fun v _ => v = .string form, fun _ _ _ _ h => h⟩, ⟨48, fun v _ => v = .int .u32 (WD : Int), fun _ _ _ _ h => h⟩, ⟨49, fun v _ => v = .int .u32 (PW : Int), fun _ _ _ _ h => h⟩, ⟨50, fun v _ => v = .bool false, fun _ _ _ _ h => h⟩, ⟨51, fun v _ => v = .bool false, fun _ _ _ _ h => h⟩, ⟨52, fun v _ => v = .pointer (some ⟨w.heap.size + 1, 3, none⟩), fun _ _ _ _ h => h⟩, ⟨53, fun v _ => v = .string form, fun _ _ _ _ h => h⟩, ⟨54, fun v _ => v = .bool true, fun _ _ _ _ h => h⟩, ⟨55, fun v _ => v = .bool true, fun _ _ _ _ h => h⟩, ⟨56, fun v _ => v = .pointer (some ⟨w.heap.size, 3, none⟩), fun _ _ _ _ h => h⟩, ⟨57, fun v _ => v = .int .i64 rd, fun _ _ _ _ h => h⟩, ⟨58, fun v _ => v = .bool true, fun _ _ _ _ h => h⟩, ⟨59, fun v _ => v = .bool true, fun _ _ _ _ h => h⟩, ⟨60, fun v _ => v = .bool true, fun _ _ _ _ h => h⟩] _ (by kernel_rfl) rfl (by kernel_rfl) (Below.drew (Below.refl _ _)) (fun _ _ _ h1 h2 => below_tr h1 h2) (fun QQ => ⟨?_, ?_, ?_, ?_, ?_, ?_, ?_, ?_, ?_, ?_, ?_, ?_, ?_, ?_, ?_, ?_, ?_, trivial⟩) (fun f wy hR hf => ?_)
                  · intro A wx hR hout hdep K hK
                    have h2 : A.tmps[2]?.getD undef = .pointer (some ⟨w.heap.size, 0, none⟩) := hout 2 (by kernel_rfl)
                    refine if_yes (by kernel_rfl) ?_
                    simp [go_sem, h2, m1, m2, m3, m4, hge, hge2, htd, hrn]
                    exact hK.out _ _ (Below.refl _ _) rfl
                  · intro A wx hR hout hdep K hK
                    have h44 : A.tmps[44]?.getD undef = .pointer (some ⟨w.heap.size, 5, none⟩) := hdep 44 (by kernel_rfl)
                    refine if_yes (by kernel_rfl) ?_
                    have d3 := keep_cell hR d3
                    have d5 := keep_cell hR d5
                    have x3 := keep_cell hR x3
                    simp [go_sem, h44, d3, d5, x3, m1, m2, m3, m4, hge, hge2, htd, hrn]
                    exact hK.out _ _ (Below.refl _ _) rfl
                  · intro A wx hR hout hdep K hK
                    have h3 : A.tmps[3]?.getD undef = .pointer (some ⟨w.heap.size + 1, 0, none⟩) := hout 3 (by kernel_rfl)
                    refine if_yes (by kernel_rfl) ?_
                    simp [go_sem, h3, m1, m2, m3, m4, hge, hge2, htd, hrn]
                    exact hK.out _ _ (Below.refl _ _) rfl
                  · intro A wx hR hout hdep K hK
                    have h46 : A.tmps[46]?.getD undef = .pointer (some ⟨w.heap.size + 1, 3, none⟩) := hdep 46 (by kernel_rfl)
                    refine if_yes (by kernel_rfl) ?_
                    have d3 := keep_cell hR d3
                    have d5 := keep_cell hR d5
                    have x3 := keep_cell hR x3
                    simp [go_sem, h46, d3, d5, x3, m1, m2, m3, m4, hge, hge2, htd, hrn]
                    exact hK.out _ _ (Below.refl _ _) rfl
                  · intro A wx hR hout hdep K hK
                    have h47 : A.tmps[47]?.getD undef = .string form := hdep 47 (by kernel_rfl)
                    refine if_yes (by kernel_rfl) ?_
                    simp [go_sem, h47, m1, m2, m3, m4, hge, hge2, htd, hrn]
                    refine (K33.out wx).mono ?_
                    rintro e wG ⟨rfl, rfl⟩
                    exact hK.out _ _ (Below.refl _ _) rfl
                  · intro A wx hR hout hdep K hK
                    have h48 : A.tmps[48]?.getD undef = .int .u32 (WD : Int) := hdep 48 (by kernel_rfl)
                    refine if_yes (by kernel_rfl) ?_
                    simp [go_sem, h48, m1, m2, m3, m4, hge, hge2, htd, hrn]
                    exact hK.out _ _ (Below.refl _ _) rfl
                  · intro A wx hR hout hdep K hK
                    have h45 : A.tmps[45]?.getD undef = .int .u32 (imm : Int) := hdep 45 (by kernel_rfl)
                    have h49 : A.tmps[49]?.getD undef = .int .u32 (PW : Int) := hdep 49 (by kernel_rfl)
                    refine if_yes (by kernel_rfl) ?_
                    simp [go_sem, h45, h49, m1, m2, m3, m4, hge, hge2, htd, hrn]
                    exact hK.out _ _ (Below.refl _ _) rfl
                  · intro A wx hR hout hdep K hK
                    have h50 : A.tmps[50]?.getD undef = .bool false := hdep 50 (by kernel_rfl)
                    refine if_yes (by kernel_rfl) ?_
                    simp [go_sem, h50, m1, m2, m3, m4, hge, hge2, htd, hrn]
                    exact hK.out _ _ (Below.refl _ _) rfl
                  · intro A wx hR hout hdep K hK
                    have h3 : A.tmps[3]?.getD undef = .pointer (some ⟨w.heap.size + 1, 0, none⟩) := hout 3 (by kernel_rfl)
                    have h51 : A.tmps[51]?.getD undef = .bool false := hdep 51 (by kernel_rfl)
                    refine if_yes ((wanted_is (j := 7) (b := false) (by kernel_rfl) (by kernel_rfl) h51).trans rfl) ?_
                    simp [go_sem, h3, m1, m2, m3, m4, hge, hge2, htd, hrn]
                    exact hK.out _ _ (Below.refl _ _) rfl
                  · intro A wx hR hout hdep K hK
                    have h52 : A.tmps[52]?.getD undef = .pointer (some ⟨w.heap.size + 1, 3, none⟩) := hdep 52 (by kernel_rfl)
                    have h51 : A.tmps[51]?.getD undef = .bool false := hdep 51 (by kernel_rfl)
                    refine if_yes ((wanted_is (j := 7) (b := false) (by kernel_rfl) (by kernel_rfl) h51).trans rfl) ?_
                    have d3 := keep_cell hR d3
                    have d5 := keep_cell hR d5
                    have x3 := keep_cell hR x3
                    simp [go_sem, h52, d3, d5, x3, m1, m2, m3, m4, hge, hge2, htd, hrn]
                    exact hK.out _ _ (Below.refl _ _) rfl
                  · intro A wx hR hout hdep K hK
                    have h53 : A.tmps[53]?.getD undef = .string form := hdep 53 (by kernel_rfl)
                    have h51 : A.tmps[51]?.getD undef = .bool false := hdep 51 (by kernel_rfl)
                    refine if_yes ((wanted_is (j := 7) (b := false) (by kernel_rfl) (by kernel_rfl) h51).trans rfl) ?_
                    simp [go_sem, h53, m1, m2, m3, m4, hge, hge2, htd, hrn]
                    exact hK.out _ _ (Below.refl _ _) rfl
                  · intro A wx hR hout hdep K hK
                    have h54 : A.tmps[54]?.getD undef = .bool true := hdep 54 (by kernel_rfl)
                    have h51 : A.tmps[51]?.getD undef = .bool false := hdep 51 (by kernel_rfl)
                    refine if_yes ((wanted_is (j := 7) (b := false) (by kernel_rfl) (by kernel_rfl) h51).trans rfl) ?_
                    simp [go_sem, h54, m1, m2, m3, m4, hge, hge2, htd, hrn]
                    exact hK.out _ _ (Below.refl _ _) rfl
                  · intro A wx hR hout hdep K hK
                    have h2 : A.tmps[2]?.getD undef = .pointer (some ⟨w.heap.size, 0, none⟩) := hout 2 (by kernel_rfl)
                    have h55 : A.tmps[55]?.getD undef = .bool true := hdep 55 (by kernel_rfl)
                    refine if_yes ((wanted_is (j := 11) (b := true) (by kernel_rfl) (by kernel_rfl) h55).trans rfl) ?_
                    simp [go_sem, h2, m1, m2, m3, m4, hge, hge2, htd, hrn]
                    exact hK.out _ _ (Below.refl _ _) rfl
                  · intro A wx hR hout hdep K hK
                    have h56 : A.tmps[56]?.getD undef = .pointer (some ⟨w.heap.size, 3, none⟩) := hdep 56 (by kernel_rfl)
                    have h55 : A.tmps[55]?.getD undef = .bool true := hdep 55 (by kernel_rfl)
                    refine if_yes ((wanted_is (j := 11) (b := true) (by kernel_rfl) (by kernel_rfl) h55).trans rfl) ?_
                    have d3 := keep_cell hR d3
                    have d5 := keep_cell hR d5
                    have x3 := keep_cell hR x3
                    simp [go_sem, h56, d3, d5, x3, m1, m2, m3, m4, hge, hge2, htd, hrn]
                    exact hK.out _ _ (Below.refl _ _) rfl
                  · intro A wx hR hout hdep K hK
                    have h57 : A.tmps[57]?.getD undef = .int .i64 rd := hdep 57 (by kernel_rfl)
                    have h55 : A.tmps[55]?.getD undef = .bool true := hdep 55 (by kernel_rfl)
                    refine if_yes ((wanted_is (j := 11) (b := true) (by kernel_rfl) (by kernel_rfl) h55).trans rfl) ?_
                    simp [go_sem, h57, m1, m2, m3, m4, hge, hge2, htd, hrn]
                    exact hK.out _ _ (Below.refl _ _) rfl
                  · intro A wx hR hout hdep K hK
                    have h55 : A.tmps[55]?.getD undef = .bool true := hdep 55 (by kernel_rfl)
                    have h58 : A.tmps[58]?.getD undef = .bool true := hdep 58 (by kernel_rfl)
                    have h51 : A.tmps[51]?.getD undef = .bool false := hdep 51 (by kernel_rfl)
                    refine if_yes ((wanted_is (j := 7) (b := false) (by kernel_rfl) (by kernel_rfl) h51).trans rfl) ?_
                    simp [go_sem, h55, h58, m1, m2, m3, m4, hge, hge2, htd, hrn]
                    exact hK.out _ _ (Below.refl _ _) rfl
                  · intro A wx hR hout hdep K hK
                    have h51 : A.tmps[51]?.getD undef = .bool false := hdep 51 (by kernel_rfl)
                    have h59 : A.tmps[59]?.getD undef = .bool true := hdep 59 (by kernel_rfl)
                    refine if_yes (by kernel_rfl) ?_
                    simp [go_sem, h51, h59, m1, m2, m3, m4, hge, hge2, htd, hrn]
                    exact hK.out _ _ (Below.refl _ _) rfl
                  simp only [putSl, Act.put, List.setIfInBounds_toArray, List.set_cons_zero, List.set_cons_succ, show f 60 = .bool true from hf 60 (by kernel_rfl)]
                  have HBY : Hid (Below w.heap.size w wy) := below_tr HBE.out hR
                  go_wp2
                  go_ret
                  exact ⟨by rw [HZ.out]; rfl, HBY.out⟩
                | false =>
                  have HZ : Hid (Z = ((!(name.toList == [101, 120, 116]) || decide (wrap64 (rd + sa) ≤ 31)) && (!(name.toList == [105, 110, 115]) || decide (sa ≤ rd)))) := by
                    show _ = _
                    have : (rd == 29) = true := by simpa using hrn
                    rw [HE.out, e0, hge, htd, this]; simp
                  clear HE
                  go_wp2
                  refine wp_region_slots (R := Ext) [⟨44, fun v _ => v = .pointer (some ⟨w.heap.size, 5, none⟩), fun _ _ _ _ h => h⟩, ⟨45, fun v _ => v = .int .u32 (imm : Int), fun _ _ _ _ h => h⟩, ⟨46, fun v _ => v = .pointer (some ⟨w.heap.size + 1, 3, none⟩), fun _ _ _ _ h => h⟩, ⟨47, fun v _ => v = .string form, fun _ _ _ _ h => h⟩, ⟨48, fun v _ => v = .int .u32 (WD : Int), fun _ _ _ _ h => h⟩, ⟨49, fun v _ => v = .int .u32 (PW : Int), fun _ _ _ _ h => h⟩, ⟨50, fun v _ => v = .bool false, fun _ _ _ _ h => h⟩, ⟨51, fun v _ => v = .bool false, fun _ _ _ _ h => h⟩, ⟨52, fun v _ => v = .pointer (some ⟨w.heap.size + 1, 3, none⟩), fun _ _ _ _ h => h⟩, ⟨53, fun v _ => v = .string form, fun _ _ _ _ h => h⟩, ⟨54, fun v _ => v = .bool true, fun _ _ _ _ h => h⟩, ⟨55, fun v _ => v = .bool true, fun _ _ _ _ h => h⟩, ⟨56, fun v _ => v = .pointer (some ⟨w.heap.size, 3, none⟩), fun _ _ _ _ h => h⟩, ⟨57, fun v _ => v = .int .i64 rd, fun _ _ _ _ h => h⟩, ⟨58, fun v _ => v = .bool false, fun _ _ _ _ h => h⟩, ⟨59, fun v _ => v = .bool false, fun _ _ _ _ h => h⟩, ⟨60, fun v _ => v = .bool false, fun _ _ _ _ h => h⟩] _ (by kernel_rfl) rfl (by kernel_rfl) (Below.drew (Below.refl _ _)) (fun _ _ _ h1 h2 => below_tr h1 h2) (fun QQ => ⟨?_, ?_, ?_, ?_, ?_, ?_, ?_, ?_, ?_, ?_, ?_, ?_, ?_, ?_, ?_, ?_, ?_, trivial⟩) (fun f wy hR hf => ?_)
                  · intro A wx hR hout hdep K hK
                    have h2 : A.tmps[2]?.getD undef = .pointer (some ⟨w.heap.size, 0, none⟩) := hout 2 (by kernel_rfl)
                    refine if_yes (by kernel_rfl) ?_
                    simp [go_sem, h2, m1, m2, m3, m4, hge, hge2, htd, hrn]
                    exact hK.out _ _ (Below.refl _ _) rfl
                  · intro A wx hR hout hdep K hK
                    have h44 : A.tmps[44]?.getD undef = .pointer (some ⟨w.heap.size, 5, none⟩) := hdep 44 (by kernel_rfl)
                    refine if_yes (by kernel_rfl) ?_
                    have d3 := keep_cell hR d3
                    have d5 := keep_cell hR d5
                    have x3 := keep_cell hR x3
                    simp [go_sem, h44, d3, d5, x3, m1, m2, m3, m4, hge, hge2, htd, hrn]
                    exact hK.out _ _ (Below.refl _ _) rfl
                  · intro A wx hR hout hdep K hK
                    have h3 : A.tmps[3]?.getD undef = .pointer (some ⟨w.heap.size + 1, 0, none⟩) := hout 3 (by kernel_rfl)
                    refine if_yes (by kernel_rfl) ?_
                    simp [go_sem, h3, m1, m2, m3, m4, hge, hge2, htd, hrn]
                    exact hK.out _ _ (Below.refl _ _) rfl
                  · intro A wx hR hout hdep K hK
                    have h46 : A.tmps[46]?.getD undef = .pointer (some ⟨w.heap.size + 1, 3, none⟩) := hdep 46 (by kernel_rfl)
                    refine if_yes (by kernel_rfl) ?_
                    have d3 := keep_cell hR d3
                    have d5 := keep_cell hR d5
                    have x3 := keep_cell hR x3
                    simp [go_sem, h46, d3, d5, x3, m1, m2, m3, m4, hge, hge2, htd, hrn]
                    exact hK.out _ _ (Below.refl _ _) rfl
                  · intro A wx hR hout hdep K hK
                    have h47 : A.tmps[47]?.getD undef = .string form := hdep 47 (by kernel_rfl)
                    refine if_yes (by kernel_rfl) ?_
                    simp [go_sem, h47, m1, m2, m3, m4, hge, hge2, htd, hrn]
                    refine (K33.out wx).mono ?_
                    rintro e wG ⟨rfl, rfl⟩
                    exact hK.out _ _ (Below.refl _ _) rfl
                  · intro A wx hR hout hdep K hK
                    have h48 : A.tmps[48]?.getD undef = .int .u32 (WD : Int) := hdep 48 (by kernel_rfl)
                    refine if_yes (by kernel_rfl) ?_
                    simp [go_sem, h48, m1, m2, m3, m4, hge, hge2, htd, hrn]
                    exact hK.out _ _ (Below.refl _ _) rfl
                  · intro A wx hR hout hdep K hK
                    have h45 : A.tmps[45]?.getD undef = .int .u32 (imm : Int) := hdep 45 (by kernel_rfl)
                    have h49 : A.tmps[49]?.getD undef = .int .u32 (PW : Int) := hdep 49 (by kernel_rfl)
                    refine if_yes (by kernel_rfl) ?_
                    simp [go_sem, h45, h49, m1, m2, m3, m4, hge, hge2, htd, hrn]
                    exact hK.out _ _ (Below.refl _ _) rfl
                  · intro A wx hR hout hdep K hK
                    have h50 : A.tmps[50]?.getD undef = .bool false := hdep 50 (by kernel_rfl)
                    refine if_yes (by kernel_rfl) ?_
                    simp [go_sem, h50, m1, m2, m3, m4, hge, hge2, htd, hrn]
                    exact hK.out _ _ (Below.refl _ _) rfl
                  · intro A wx hR hout hdep K hK
                    have h3 : A.tmps[3]?.getD undef = .pointer (some ⟨w.heap.size + 1, 0, none⟩) := hout 3 (by kernel_rfl)
                    have h51 : A.tmps[51]?.getD undef = .bool false := hdep 51 (by kernel_rfl)
                    refine if_yes ((wanted_is (j := 7) (b := false) (by kernel_rfl) (by kernel_rfl) h51).trans rfl) ?_
                    simp [go_sem, h3, m1, m2, m3, m4, hge, hge2, htd, hrn]
                    exact hK.out _ _ (Below.refl _ _) rfl
                  · intro A wx hR hout hdep K hK
                    have h52 : A.tmps[52]?.getD undef = .pointer (some ⟨w.heap.size + 1, 3, none⟩) := hdep 52 (by kernel_rfl)
                    have h51 : A.tmps[51]?.getD undef = .bool false := hdep 51 (by kernel_rfl)
                    refine if_yes ((wanted_is (j := 7) (b := false) (by kernel_rfl) (by kernel_rfl) h51).trans rfl) ?_
                    have d3 := keep_cell hR d3
                    have d5 := keep_cell hR d5
                    have x3 := keep_cell hR x3
                    simp [go_sem, h52, d3, d5, x3, m1, m2, m3, m4, hge, hge2, htd, hrn]
                    exact hK.out _ _ (Below.refl _ _) rfl
                  · intro A wx hR hout hdep K hK
                    have h53 : A.tmps[53]?.getD undef = .string form := hdep 53 (by kernel_rfl)
                    have h51 : A.tmps[51]?.getD undef = .bool false := hdep 51 (by kernel_rfl)
                    refine if_yes ((wanted_is (j := 7) (b := false) (by kernel_rfl) (by kernel_rfl) h51).trans rfl) ?_
                    simp [go_sem, h53, m1, m2, m3, m4, hge, hge2, htd, hrn]
                    exact hK.out _ _ (Below.refl _ _) rfl
                  · intro A wx hR hout hdep K hK
                    have h54 : A.tmps[54]?.getD undef = .bool true := hdep 54 (by kernel_rfl)
                    have h51 : A.tmps[51]?.getD undef = .bool false := hdep 51 (by kernel_rfl)
                    refine if_yes ((wanted_is (j := 7) (b := false) (by kernel_rfl) (by kernel_rfl) h51).trans rfl) ?_
                    simp [go_sem, h54, m1, m2, m3, m4, hge, hge2, htd, hrn]
                    exact hK.out _ _ (Below.refl _ _) rfl
                  · intro A wx hR hout hdep K hK
                    have h2 : A.tmps[2]?.getD undef = .pointer (some ⟨w.heap.size, 0, none⟩) := hout 2 (by kernel_rfl)
                    have h55 : A.tmps[55]?.getD undef = .bool true := hdep 55 (by kernel_rfl)
                    refine if_yes ((wanted_is (j := 11) (b := true) (by kernel_rfl) (by kernel_rfl) h55).trans rfl) ?_
                    simp [go_sem, h2, m1, m2, m3, m4, hge, hge2, htd, hrn]
                    exact hK.out _ _ (Below.refl _ _) rfl
                  · intro A wx hR hout hdep K hK
                    have h56 : A.tmps[56]?.getD undef = .pointer (some ⟨w.heap.size, 3, none⟩) := hdep 56 (by kernel_rfl)
                    have h55 : A.tmps[55]?.getD undef = .bool true := hdep 55 (by kernel_rfl)
                    refine if_yes ((wanted_is (j := 11) (b := true) (by kernel_rfl) (by kernel_rfl) h55).trans rfl) ?_
                    have d3 := keep_cell hR d3
                    have d5 := keep_cell hR d5
                    have x3 := keep_cell hR x3
                    simp [go_sem, h56, d3, d5, x3, m1, m2, m3, m4, hge, hge2, htd, hrn]
                    exact hK.out _ _ (Below.refl _ _) rfl
                  · intro A wx hR hout hdep K hK
                    have h57 : A.tmps[57]?.getD undef = .int .i64 rd := hdep 57 (by kernel_rfl)
                    have h55 : A.tmps[55]?.getD undef = .bool true := hdep 55 (by kernel_rfl)
                    refine if_yes ((wanted_is (j := 11) (b := true) (by kernel_rfl) (by kernel_rfl) h55).trans rfl) ?_
                    simp [go_sem, h57, m1, m2, m3, m4, hge, hge2, htd, hrn]
                    exact hK.out _ _ (Below.refl _ _) rfl
                  · intro A wx hR hout hdep K hK
                    have h55 : A.tmps[55]?.getD undef = .bool true := hdep 55 (by kernel_rfl)
                    have h58 : A.tmps[58]?.getD undef = .bool false := hdep 58 (by kernel_rfl)
                    have h51 : A.tmps[51]?.getD undef = .bool false := hdep 51 (by kernel_rfl)
                    refine if_yes ((wanted_is (j := 7) (b := false) (by kernel_rfl) (by kernel_rfl) h51).trans rfl) ?_
                    simp [go_sem, h55, h58, m1, m2, m3, m4, hge, hge2, htd, hrn]
                    exact hK.out _ _ (Below.refl _ _) rfl
                  · intro A wx hR hout hdep K hK
                    have h51 : A.tmps[51]?.getD undef = .bool false := hdep 51 (by kernel_rfl)
                    have h59 : A.tmps[59]?.getD undef = .bool false := hdep 59 (by kernel_rfl)
                    refine if_yes (by kernel_rfl) ?_
                    simp [go_sem, h51, h59, m1, m2, m3, m4, hge, hge2, htd, hrn]
                    exact hK.out _ _ (Below.refl _ _) rfl
                  simp only [putSl, Act.put, List.setIfInBounds_toArray, List.set_cons_zero, List.set_cons_succ, show f 60 = .bool false from hf 60 (by kernel_rfl)]
                  have HBY : Hid (Below w.heap.size w wy) := below_tr HBE.out hR
                  obtain ⟨t0, t3, t4⟩ := TAIL.out wy hR
                  clear hf hR TAIL m1 m2 m3 m4 hge hge2 htd hrn d0 d1 d2 d3 d4 d5 x3 y0 y1 y2 y3 K33
                  cases n1 : (name.toList == [101, 120, 116]) with
                  | true =>
                    have n2 : (name.toList == [105, 110, 115]) = false := by
                      have : name.toList = [101, 120, 116] := by simpa using n1
                      rw [this]; decide
                    have HZ2 : Hid (Z = decide (wrap64 (rd + sa) ≤ 31)) := by show _ = _; rw [HZ.out, n1, n2]; simp
                    cases hle : decide (wrap64 (rd + sa) ≤ 31) with
                    | true =>
                      have HZ3 : Hid (Z = true) := by show _ = _; rw [HZ2.out, hle]
                      clear HZ HZ2
                      go_wp2
                      go_ret
                      exact ⟨by rw [HZ3.out]; rfl, HBY.out⟩
                    | false =>
                      have HZ3 : Hid (Z = false) := by show _ = _; rw [HZ2.out, hle]
                      clear HZ HZ2
                      go_wp2
                      go_ret
                      exact ⟨by rw [HZ3.out]; rfl, HBY.out⟩
                  | false =>
                    cases n2 : (name.toList == [105, 110, 115]) with
                    | true =>
                      have HZ2 : Hid (Z = decide (sa ≤ rd)) := by show _ = _; rw [HZ.out, n1, n2]; simp
                      clear HZ
                      go_wp2
                      go_ret
                      exact ⟨by rw [HZ2.out]; rfl, HBY.out⟩
                    | false =>
                      have HZ2 : Hid (Z = true) := by show _ = _; rw [HZ.out, n1, n2]; simp
                      clear HZ
                      go_wp2
                      go_ret
                      exact ⟨by rw [HZ2.out]; rfl, HBY.out⟩
end Go.Proofs.YtglkkeelocdanaaGreatDoor
