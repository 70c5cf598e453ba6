/- What is proved here: alu's Do, Known and Traps. -/
import Derived.Test.YtogokbefpgaciaaDoorAh
import Derived.Test.YtogokbefpgaciaaDoorPy
import Derived.Test.YtogokbefpgaciaaDoorEn
namespace Go.Proofs.YtogokbefpgaciaaDoor
open Go.RowKit
set_option linter.unusedVariables false
set_option linter.unusedSimpArgs false
set_option maxRecDepth 100000
/-- Which small numbers a row asks for. -/
structure Small (x : Tk) : Prop where
  sa0 : 0 ≤ x.sa
  sa1 : x.sa < 32
  rd0 : 0 ≤ x.rd
  rd1 : x.rd < 32
theorem work_any (k : Nat) (hk : k < aL.length) (x : Tk) (hx : x.Ok) (h0 : (0 ≤ x.sa ∧ x.sa < 32) ∧ (0 ≤ x.sa ∧ x.sa < 32 ∧ 0 ≤ x.rd ∧ x.rd < 32)) (h1 : k = 30 → x.sa ≤ x.rd) (w : World) :
    Calls Tryd.prog aL[k].2 #[x.val] w fun e w' => Told (workN k x) e ∧ Below w.heap.size w w' := by
  match k, hk with
  | 0, _ => exact w_add x hx  w
  | 1, _ => exact w_sub x hx  w
  | 2, _ => exact w_addi x hx  w
  | 3, _ => exact w_addu x hx  w
  | 4, _ => exact w_subu x hx  w
  | 5, _ => exact w_addiu x hx  w
  | 6, _ => exact w_and x hx  w
  | 7, _ => exact w_or x hx  w
  | 8, _ => exact w_xor x hx  w
  | 9, _ => exact w_nor x hx  w
  | 10, _ => exact w_andi x hx  w
  | 11, _ => exact w_ori x hx  w
  | 12, _ => exact w_xori x hx  w
  | 13, _ => exact w_slt x hx  w
  | 14, _ => exact w_sltu x hx  w
  | 15, _ => exact w_slti x hx  w
  | 16, _ => exact w_sltiu x hx  w
  | 17, _ => exact w_lui x hx  w
  | 18, _ => exact w_sll x hx h0.1 w
  | 19, _ => exact w_srl x hx h0.1 w
  | 20, _ => exact w_sra x hx h0.1 w
  | 21, _ => exact w_sllv x hx  w
  | 22, _ => exact w_srlv x hx  w
  | 23, _ => exact w_srav x hx  w
  | 24, _ => exact w_rotr x hx  w
  | 25, _ => exact w_rotrv x hx  w
  | 26, _ => exact w_mul x hx  w
  | 27, _ => exact w_clz x hx  w
  | 28, _ => exact w_clo x hx  w
  | 29, _ => exact w_ext x hx h0.2 w
  | 30, _ => exact w_ins x hx h0.2 (h1 rfl) w
  | 31, _ => exact w_wsbh x hx  w
  | 32, _ => exact w_seb x hx  w
  | 33, _ => exact w_seh x hx  w
  | k + 34, h => exact absurd h (by rw [aL_len]; omega)
theorem enter_any (k : Nat) (hk : k < aL.length) (args : Array Value) (w : World) : (callFunc aL[k].2 args).run Tryd.prog w = .ok (.enter aL[k].2 args) w := by
  match k, hk with
  | 0, _ => exact enter_of Tryd.func41 (by kernel_rfl) (by kernel_rfl) args w
  | 1, _ => exact enter_of Tryd.func43 (by kernel_rfl) (by kernel_rfl) args w
  | 2, _ => exact enter_of Tryd.func44 (by kernel_rfl) (by kernel_rfl) args w
  | 3, _ => exact enter_of Tryd.func45 (by kernel_rfl) (by kernel_rfl) args w
  | 4, _ => exact enter_of Tryd.func46 (by kernel_rfl) (by kernel_rfl) args w
  | 5, _ => exact enter_of Tryd.func47 (by kernel_rfl) (by kernel_rfl) args w
  | 6, _ => exact enter_of Tryd.func48 (by kernel_rfl) (by kernel_rfl) args w
  | 7, _ => exact enter_of Tryd.func49 (by kernel_rfl) (by kernel_rfl) args w
  | 8, _ => exact enter_of Tryd.func50 (by kernel_rfl) (by kernel_rfl) args w
  | 9, _ => exact enter_of Tryd.func51 (by kernel_rfl) (by kernel_rfl) args w
  | 10, _ => exact enter_of Tryd.func52 (by kernel_rfl) (by kernel_rfl) args w
  | 11, _ => exact enter_of Tryd.func53 (by kernel_rfl) (by kernel_rfl) args w
  | 12, _ => exact enter_of Tryd.func54 (by kernel_rfl) (by kernel_rfl) args w
  | 13, _ => exact enter_of Tryd.func55 (by kernel_rfl) (by kernel_rfl) args w
  | 14, _ => exact enter_of Tryd.func57 (by kernel_rfl) (by kernel_rfl) args w
  | 15, _ => exact enter_of Tryd.func58 (by kernel_rfl) (by kernel_rfl) args w
  | 16, _ => exact enter_of Tryd.func59 (by kernel_rfl) (by kernel_rfl) args w
  | 17, _ => exact enter_of Tryd.func60 (by kernel_rfl) (by kernel_rfl) args w
  | 18, _ => exact enter_of Tryd.func61 (by kernel_rfl) (by kernel_rfl) args w
  | 19, _ => exact enter_of Tryd.func62 (by kernel_rfl) (by kernel_rfl) args w
  | 20, _ => exact enter_of Tryd.func63 (by kernel_rfl) (by kernel_rfl) args w
  | 21, _ => exact enter_of Tryd.func64 (by kernel_rfl) (by kernel_rfl) args w
  | 22, _ => exact enter_of Tryd.func65 (by kernel_rfl) (by kernel_rfl) args w
  | 23, _ => exact enter_of Tryd.func66 (by kernel_rfl) (by kernel_rfl) args w
  | 24, _ => exact enter_of Tryd.func67 (by kernel_rfl) (by kernel_rfl) args w
  | 25, _ => exact enter_of Tryd.func69 (by kernel_rfl) (by kernel_rfl) args w
  | 26, _ => exact enter_of Tryd.func70 (by kernel_rfl) (by kernel_rfl) args w
  | 27, _ => exact enter_of Tryd.func71 (by kernel_rfl) (by kernel_rfl) args w
  | 28, _ => exact enter_of Tryd.func73 (by kernel_rfl) (by kernel_rfl) args w
  | 29, _ => exact enter_of Tryd.func74 (by kernel_rfl) (by kernel_rfl) args w
  | 30, _ => exact enter_of Tryd.func76 (by kernel_rfl) (by kernel_rfl) args w
  | 31, _ => exact enter_of Tryd.func78 (by kernel_rfl) (by kernel_rfl) args w
  | 32, _ => exact enter_of Tryd.func79 (by kernel_rfl) (by kernel_rfl) args w
  | 33, _ => exact enter_of Tryd.func80 (by kernel_rfl) (by kernel_rfl) args w
  | k + 34, h => exact absurd h (by rw [aL_len]; omega)
/-- An instruction's fields. -/
theorem ins_small {i : In} (h : isIns i = true) : (0 ≤ i.rs ∧ i.rs < 32) ∧ (0 ≤ i.rt ∧ i.rt < 32) ∧ (0 ≤ i.rd ∧ i.rd < 32) ∧ (0 ≤ i.sa ∧ i.sa < 32) ∧ i.imm < 67108864 := by
  obtain ⟨a, ha, hn, hb, _⟩ := ins_is h
  have hf := fit_belong (row_pair ha) (row_td ha) i (by rw [hn]; rfl)
  rw [hb] at hf
  rw [fitD] at hf
  simp only [Bool.and_eq_true] at hf
  obtain ⟨_, f1, f2, f3, f4, f5, _⟩ := hf
  obtain ⟨r1, e1, l1, _⟩ := fit_nat f1
  obtain ⟨r2, e2, l2, _⟩ := fit_nat f2
  obtain ⟨r3, e3, l3, _⟩ := fit_nat f3
  obtain ⟨r4, e4, l4, _⟩ := fit_nat f4
  have hw := wide_le (selA rowsL[a].name).form
  have hp := Nat.pow_le_pow_right (show 2 > 0 by decide) hw
  have h5 : ¬ 2 ^ wideN (selA rowsL[a].name).form ≤ i.imm := by simpa using f5
  refine ⟨by omega, by omega, by omega, by omega, ?_⟩
  have : (2 : Nat) ^ 26 = 67108864 := by decide
  omega
theorem ins_le {i : In} (h : isIns i = true) (hn : i.name.toList = [105, 110, 115]) : i.sa ≤ i.rd := by
  obtain ⟨a, ha, hn', hb, _⟩ := ins_is h
  simp only [belongB, Bool.and_eq_true] at hb
  have h3 := hb.2.2
  have hs : rowsL[a].shape.name = rowsL[a].name := rfl
  have htd := row_td ha
  have hf : rowsL[a].shape.name.toList = [105, 110, 115] := by rw [hs, ← hn']; exact hn
  have h4 : ¬ rowsL[a].shape.form.toList = [116, 100] := fun e => (htd e).2 hf
  rw [allowsB, if_neg (by simpa using h4), if_neg (by rw [hf]; decide), if_pos (by rw [hf]; decide)] at h3
  simpa using h3
theorem aidx_name {n : ByteArray} {k : Nat} (h : aIdx n = some k) : ∃ hk : k < aL.length, aL[k].1.toList = n.toList := by
  obtain ⟨h1, h2, _⟩ := List.findIdx?_eq_some_iff_getElem.1 h
  exact ⟨h1, by simpa [aNm] using h2⟩
/-- What an instruction makes its number of. -/
def tkOf (i : In) (s t : Nat) : Tk := ⟨s, t, i.imm, Sw.sextI i.imm 16, i.sa, i.rd⟩
/-- What Do makes. -/
def doR (i : In) (s t : Nat) : Option Nat := if isIns i then (match aIdx i.name with | some k => workN k (tkOf i s t) | none => none) else none
theorem sext16_lt (v : Nat) : Sw.sextI v 16 < 4294967296 := by
  rw [Sw.sextI, if_pos (by omega)]
  show Sw.sextS v 16 < _
  unfold Sw.sextS
  split <;> omega
theorem do_work {i : In} {s t k : Nat} (hs : s < 4294967296) (ht : t < 4294967296) (h : isIns i = true) (hk : aIdx i.name = some k) : ∃ hk : k < aL.length, ∀ w, Calls Tryd.prog aL[k].2 #[(tkOf i s t).val] w fun e w' => Told (workN k (tkOf i s t)) e ∧ Below w.heap.size w w' := by
  obtain ⟨h1, h2⟩ := aidx_name hk
  obtain ⟨_, _, l3, l4, l5⟩ := ins_small h
  refine ⟨h1, fun w => work_any k h1 _ ⟨hs, ht, by show i.imm < _; omega, sext16_lt _⟩ ⟨l4, l4.1, l4.2, l3⟩ (fun e => ?_) w⟩
  subst e
  exact ins_le h (by rw [← h2]; exact (by decide +kernel : (aL[30]'(by decide)).1.toList = [105, 110, 115]))
set_option maxHeartbeats 1000000 in
theorem do8 (i : In) (s t : Nat) (hi : i.imm < 4294967296) (hs : s < 4294967296) (ht : t < 4294967296) (w : World) (hT : Tab w) : Calls Tryd.prog 8 #[i.val, .int .u32 (s : Int), .int .u32 (t : Int)] w fun e w' => e = .returned (.tuple #[.int .u32 ((doR i s t).getD 0 : Int), .bool (doR i s t).isSome]) ∧ Below w.heap.size w w' := by
  obtain ⟨W, hW, hb, hz, d0, d1, d2, d3, d4, d5⟩ := box6 w (.string i.name) (.int .i64 i.rs) (.int .i64 i.rt) (.int .i64 i.rd) (.int .i64 i.sa) (.int .u32 (i.imm : Int)) 24
  have hst1 := run_store_func Tryd.prog
  have hst2 := run_store_nilF Tryd.prog
  have K16 := afound16 i.name W
  have HB : Hid (Below w.heap.size w W) := hb
  have HT : Hid (∀ w', Below W.heap.size W w' → Tab w') := fun w' h => hT.keep (below_tr hb h)
  have KE : Hid (∀ w', Below W.heap.size W w' → Calls Tryd.prog 17 #[i.val] w' fun e w'' => e = .returned (.tuple #[.int .u32 (encN i : Int), .bool (isIns i)]) ∧ Below w'.heap.size w' w'') := fun w' h => encode11 i hi w' (HT.out w' h)
  have KS : Hid (∀ w', Calls Tryd.prog 19 #[.int .u32 (i.imm : Int), .int .i64 16] w' fun e w'' => e = .returned (.int .u32 ((Sw.sextI i.imm 16 : Nat) : Int)) ∧ w'' = w') := fun w' => Sw.sext_any i.imm 16 w'
  have HR : Hid (doR i s t = if isIns i then (match aIdx i.name with | some k => workN k (tkOf i s t) | none => none) else none) := rfl
  have HK : Hid (isIns i = true → ∀ k, aIdx i.name = some k → ∃ hk : k < aL.length, ∀ w, Calls Tryd.prog aL[k].2 #[(tkOf i s t).val] w fun e w' => Told (workN k (tkOf i s t)) e ∧ Below w.heap.size w w') := fun h k hk => do_work hs ht h hk
  have HX : Hid ((tkOf i s t).val = .agg #[.int .u32 (s : Int), .int .u32 (t : Int), .int .u32 (i.imm : Int), .int .u32 ((Sw.sextI i.imm 16 : Nat) : Int), .int .i64 i.sa, .int .i64 i.rd]) := rfl
  have HA : Hid (aRow i.name = (match aIdx i.name with | some k => (if h : k < aL.length then aVal aL[k] else undef) | none => .agg #[.string ⟨#[]⟩, .nilFunc])) := rfl
  have HL : Hid (∀ k, aIdx i.name = some k → k < aL.length) := fun k h => aidx_lt h
  generalize doR i s t = r at HR ⊢
  generalize encN i = E at KE
  generalize isIns i = ib at KE HR HK
  generalize aRow i.name = AR at HA K16
  generalize aIdx i.name = o at HR HK HA K16 HL
  generalize tkOf i s t = X at HR HK HX
  generalize Sw.sextI i.imm 16 = sx at KS HX
  clear hb hz hT hi hs ht
  obtain ⟨nm, rs, rt, rd, sa, imm⟩ := i
  simp only [In.val] at KE d0 d1 d2 d3 d4 d5 hW HX ⊢
  cases o with
  | none =>
    obtain rfl : AR = .agg #[.string ⟨#[]⟩, .nilFunc] := HA.out
    obtain rfl : r = none := by rw [HR.out]; split <;> rfl
    clear HR HA HK HL HX KS
    go_enter Tryd.func8, Tryd.ntmps8
    go_wp2_with fail
    refine K16.mono ?_
    rintro e w3 ⟨rfl, hb3⟩
    obtain ⟨w4, hw4⟩ : ∃ z, z = w3.alloc (.cells #[.string ⟨#[]⟩, .nilFunc] 37) := ⟨_, rfl⟩
    have hb4 : Below w3.heap.size w3 w4 := by rw [hw4]; exact (Below.refl _ _).alloc (Nat.le_refl _) _
    have hz4 := hb4
    have HB4 : Hid (Below W.heap.size W w4) := below_tr hb3 hb4
    have d0 := keep_cell HB4.out d0
    have d1 := keep_cell HB4.out d1
    have d2 := keep_cell HB4.out d2
    have d3 := keep_cell HB4.out d3
    have d4 := keep_cell HB4.out d4
    have d5 := keep_cell HB4.out d5
    have K17 := KE.out w4 HB4.out
    clear K16 hb3 hb4 hz4 KE
    rw [hw4] at d0 d1 d2 d3 d4 d5 K17
    go_wp2_with fail
    refine K17.mono ?_
    rintro e w5 ⟨rfl, hb5⟩
    have HBE : Hid (Below w.heap.size w w5) := below_tr HB.out (below_tr HB4.out (by rw [hw4]; exact hb5))
    clear K17 hb5 hw4
    cases ib with
    | false =>
      go_wp2
      go_ret2
      exact ⟨rfl, HBE.out⟩
    | true =>
      go_wp2
      go_ret2
      exact ⟨rfl, HBE.out⟩
  | some k =>
    have hk := HL.out k rfl
    obtain rfl : AR = aVal aL[k] := by have := HA.out; simp only [dif_pos hk] at this; exact this
    have HC : Hid (ib = true → ∀ w, Calls Tryd.prog 18 #[.func (.func aL[k].2) #[] #[], .agg #[.int .u32 (s : Int), .int .u32 (t : Int), .int .u32 (imm : Int), .int .u32 (sx : Int), .int .i64 sa, .int .i64 rd]] w fun e w' => e = .returned (.tuple #[.int .u32 (r.getD 0 : Int), .bool r.isSome]) ∧ Below w.heap.size w w') := fun h w => by
      obtain ⟨hk', hw⟩ := HK.out h k rfl
      have hr : r = workN k X := by rw [HR.out, h]; rfl
      rw [← HX.out, hr]
      exact caught18 _ X _ w (fun w1 => enter_any k hk _ w1) hw
    have HN : Hid (ib = false → r = none) := fun h => by show _ = _; rw [HR.out, h]; rfl
    clear HA HL HR HK HX
    unfold aVal at K16
    generalize aL[k] = ar at K16 HC
    obtain ⟨an, fn⟩ := ar
    simp only at K16 HC
    clear hk
    go_enter Tryd.func8, Tryd.ntmps8
    go_wp2_with fail
    refine K16.mono ?_
    rintro e w3 ⟨rfl, hb3⟩
    obtain ⟨w4, hw4, hb4, hz4, k0, k1, _⟩ := box2 w3 (.string an) (.func (.func fn) #[] #[]) 37
    have HB4 : Hid (Below W.heap.size W w4) := below_tr hb3 hb4
    have d0 := keep_cell HB4.out d0
    have d1 := keep_cell HB4.out d1
    have d2 := keep_cell HB4.out d2
    have d3 := keep_cell HB4.out d3
    have d4 := keep_cell HB4.out d4
    have d5 := keep_cell HB4.out d5
    have K17 := KE.out w4 HB4.out
    clear K16 hb3 hb4 hz4 KE
    go_wp2_with fail
    refine K17.mono ?_
    rintro e w5 ⟨rfl, hb5⟩
    have HBE : Hid (Below w.heap.size w w5) := below_tr HB.out (below_tr HB4.out hb5)
    have d0 := keep_cell hb5 d0
    have d1 := keep_cell hb5 d1
    have d2 := keep_cell hb5 d2
    have d3 := keep_cell hb5 d3
    have d4 := keep_cell hb5 d4
    have d5 := keep_cell hb5 d5
    have k0 := keep_cell hb5 k0
    have k1 := keep_cell hb5 k1
    clear K17 hb5
    cases ib with
    | false =>
      obtain rfl : r = none := HN.out rfl
      go_wp2
      go_ret2
      exact ⟨rfl, HBE.out⟩
    | true =>
      have HCC : Hid _ := HC.out rfl
      clear HC HN
      go_wp2
      refine wp_region_slots (R := Ext) [⟨29, fun v _ => v = (.pointer (some ⟨w3.heap.size, 1, none⟩)), fun _ _ _ _ h => h⟩, ⟨30, fun v _ => v = (.func (.func fn) #[] #[]), fun _ _ _ _ h => h⟩, ⟨31, fun v _ => v = (.int .u32 (s : Int)), fun _ _ _ _ h => h⟩, ⟨32, fun v _ => v = (.int .u32 (t : Int)), fun _ _ _ _ h => h⟩, ⟨33, fun v _ => v = (.pointer (some ⟨w.heap.size, 5, none⟩)), fun _ _ _ _ h => h⟩, ⟨34, fun v _ => v = (.int .u32 (imm : Int)), fun _ _ _ _ h => h⟩, ⟨35, fun v _ => v = (.pointer (some ⟨w.heap.size, 5, none⟩)), fun _ _ _ _ h => h⟩, ⟨36, fun v _ => v = (.int .u32 (imm : Int)), fun _ _ _ _ h => h⟩, ⟨37, fun v _ => v = (.int .u32 (sx : Int)), fun _ _ _ _ h => h⟩, ⟨38, fun v _ => v = (.pointer (some ⟨w.heap.size, 4, none⟩)), fun _ _ _ _ h => h⟩, ⟨39, fun v _ => v = (.int .i64 sa), fun _ _ _ _ h => h⟩, ⟨40, fun v _ => v = (.pointer (some ⟨w.heap.size, 3, none⟩)), fun _ _ _ _ h => h⟩, ⟨41, fun v _ => v = (.int .i64 rd), fun _ _ _ _ h => h⟩, ⟨42, fun v _ => v = (.agg #[.int .u32 (s : Int), .int .u32 (t : Int), .int .u32 (imm : Int), .int .u32 (sx : Int), .int .i64 sa, .int .i64 rd]), fun _ _ _ _ h => h⟩, ⟨43, fun v _ => v = (.tuple #[.int .u32 (r.getD 0 : Int), .bool r.isSome]), fun _ _ _ _ h => h⟩, ⟨44, fun v _ => v = (.int .u32 (r.getD 0 : Int)), fun _ _ _ _ h => h⟩, ⟨45, fun v _ => v = (.bool r.isSome), fun _ _ _ _ h => h⟩, ⟨6, fun v _ => v = (.int .u32 (r.getD 0 : Int)), fun _ _ _ _ h => h⟩, ⟨7, fun v _ => v = (.bool r.isSome), fun _ _ _ _ h => h⟩] _ (by kernel_rfl) rfl (by kernel_rfl) (Below.drew (Below.refl _ _)) (fun _ _ _ h1 h2 => below_tr h1 h2) (fun QQ => ⟨?_, ?_, ?_, ?_, ?_, ?_, ?_, ?_, ?_, ?_, ?_, ?_, ?_, ?_, ?_, ?_, ?_, ?_, ?_, trivial⟩) (fun f wy hR hf => ?_)
      · intro A wx hR hout hdep K hK
        have h8 : A.tmps[8]?.getD undef = (.pointer (some ⟨w3.heap.size, 0, none⟩)) := hout 8 (by kernel_rfl)
        refine if_yes (by kernel_rfl) ?_
        simp [go_sem, h8]
        exact hK.out _ _ (Below.refl _ _) rfl
      · intro A wx hR hout hdep K hK
        have h29 : A.tmps[29]?.getD undef = (.pointer (some ⟨w3.heap.size, 1, none⟩)) := hdep 29 (by kernel_rfl)
        refine if_yes (by kernel_rfl) ?_
        have d0 := keep_cell hR d0
        have d1 := keep_cell hR d1
        have d2 := keep_cell hR d2
        have d3 := keep_cell hR d3
        have d4 := keep_cell hR d4
        have d5 := keep_cell hR d5
        have k0 := keep_cell hR k0
        have k1 := keep_cell hR k1
        simp [go_sem, h29, d0, d1, d2, d3, d4, d5, k0, k1]
        exact hK.out _ _ (Below.refl _ _) rfl
      · intro A wx hR hout hdep K hK
        have h1 : A.tmps[1]?.getD undef = (.int .u32 (s : Int)) := hout 1 (by kernel_rfl)
        refine if_yes (by kernel_rfl) ?_
        simp [go_sem, h1]
        exact hK.out _ _ (Below.refl _ _) rfl
      · intro A wx hR hout hdep K hK
        have h2 : A.tmps[2]?.getD undef = (.int .u32 (t : Int)) := hout 2 (by kernel_rfl)
        refine if_yes (by kernel_rfl) ?_
        simp [go_sem, h2]
        exact hK.out _ _ (Below.refl _ _) rfl
      · intro A wx hR hout hdep K hK
        have h3 : A.tmps[3]?.getD undef = (.pointer (some ⟨w.heap.size, 0, none⟩)) := hout 3 (by kernel_rfl)
        refine if_yes (by kernel_rfl) ?_
        simp [go_sem, h3]
        exact hK.out _ _ (Below.refl _ _) rfl
      · intro A wx hR hout hdep K hK
        have h33 : A.tmps[33]?.getD undef = (.pointer (some ⟨w.heap.size, 5, none⟩)) := hdep 33 (by kernel_rfl)
        refine if_yes (by kernel_rfl) ?_
        have d0 := keep_cell hR d0
        have d1 := keep_cell hR d1
        have d2 := keep_cell hR d2
        have d3 := keep_cell hR d3
        have d4 := keep_cell hR d4
        have d5 := keep_cell hR d5
        have k0 := keep_cell hR k0
        have k1 := keep_cell hR k1
        simp [go_sem, h33, d0, d1, d2, d3, d4, d5, k0, k1]
        exact hK.out _ _ (Below.refl _ _) rfl
      · intro A wx hR hout hdep K hK
        have h3 : A.tmps[3]?.getD undef = (.pointer (some ⟨w.heap.size, 0, none⟩)) := hout 3 (by kernel_rfl)
        refine if_yes (by kernel_rfl) ?_
        simp [go_sem, h3]
        exact hK.out _ _ (Below.refl _ _) rfl
      · intro A wx hR hout hdep K hK
        have h35 : A.tmps[35]?.getD undef = (.pointer (some ⟨w.heap.size, 5, none⟩)) := hdep 35 (by kernel_rfl)
        refine if_yes (by kernel_rfl) ?_
        have d0 := keep_cell hR d0
        have d1 := keep_cell hR d1
        have d2 := keep_cell hR d2
        have d3 := keep_cell hR d3
        have d4 := keep_cell hR d4
        have d5 := keep_cell hR d5
        have k0 := keep_cell hR k0
        have k1 := keep_cell hR k1
        simp [go_sem, h35, d0, d1, d2, d3, d4, d5, k0, k1]
        exact hK.out _ _ (Below.refl _ _) rfl
      · intro A wx hR hout hdep K hK
        have h36 : A.tmps[36]?.getD undef = (.int .u32 (imm : Int)) := hdep 36 (by kernel_rfl)
        refine if_yes (by kernel_rfl) ?_
        simp [go_sem, h36]
        refine (KS.out wx).mono ?_
        rintro e wG ⟨rfl, rfl⟩
        exact hK.out _ _ (Below.refl _ _) rfl
      · intro A wx hR hout hdep K hK
        have h3 : A.tmps[3]?.getD undef = (.pointer (some ⟨w.heap.size, 0, none⟩)) := hout 3 (by kernel_rfl)
        refine if_yes (by kernel_rfl) ?_
        simp [go_sem, h3]
        exact hK.out _ _ (Below.refl _ _) rfl
      · intro A wx hR hout hdep K hK
        have h38 : A.tmps[38]?.getD undef = (.pointer (some ⟨w.heap.size, 4, none⟩)) := hdep 38 (by kernel_rfl)
        refine if_yes (by kernel_rfl) ?_
        have d0 := keep_cell hR d0
        have d1 := keep_cell hR d1
        have d2 := keep_cell hR d2
        have d3 := keep_cell hR d3
        have d4 := keep_cell hR d4
        have d5 := keep_cell hR d5
        have k0 := keep_cell hR k0
        have k1 := keep_cell hR k1
        simp [go_sem, h38, d0, d1, d2, d3, d4, d5, k0, k1]
        exact hK.out _ _ (Below.refl _ _) rfl
      · intro A wx hR hout hdep K hK
        have h3 : A.tmps[3]?.getD undef = (.pointer (some ⟨w.heap.size, 0, none⟩)) := hout 3 (by kernel_rfl)
        refine if_yes (by kernel_rfl) ?_
        simp [go_sem, h3]
        exact hK.out _ _ (Below.refl _ _) rfl
      · intro A wx hR hout hdep K hK
        have h40 : A.tmps[40]?.getD undef = (.pointer (some ⟨w.heap.size, 3, none⟩)) := hdep 40 (by kernel_rfl)
        refine if_yes (by kernel_rfl) ?_
        have d0 := keep_cell hR d0
        have d1 := keep_cell hR d1
        have d2 := keep_cell hR d2
        have d3 := keep_cell hR d3
        have d4 := keep_cell hR d4
        have d5 := keep_cell hR d5
        have k0 := keep_cell hR k0
        have k1 := keep_cell hR k1
        simp [go_sem, h40, d0, d1, d2, d3, d4, d5, k0, k1]
        exact hK.out _ _ (Below.refl _ _) rfl
      · intro A wx hR hout hdep K hK
        have h31 : A.tmps[31]?.getD undef = (.int .u32 (s : Int)) := hdep 31 (by kernel_rfl)
        have h32 : A.tmps[32]?.getD undef = (.int .u32 (t : Int)) := hdep 32 (by kernel_rfl)
        have h34 : A.tmps[34]?.getD undef = (.int .u32 (imm : Int)) := hdep 34 (by kernel_rfl)
        have h37 : A.tmps[37]?.getD undef = (.int .u32 (sx : Int)) := hdep 37 (by kernel_rfl)
        have h39 : A.tmps[39]?.getD undef = (.int .i64 sa) := hdep 39 (by kernel_rfl)
        have h41 : A.tmps[41]?.getD undef = (.int .i64 rd) := hdep 41 (by kernel_rfl)
        refine if_yes (by kernel_rfl) ?_
        simp [go_sem, h31, h32, h34, h37, h39, h41]
        exact hK.out _ _ (Below.refl _ _) rfl
      · intro A wx hR hout hdep K hK
        have h30 : A.tmps[30]?.getD undef = (.func (.func fn) #[] #[]) := hdep 30 (by kernel_rfl)
        have h42 : A.tmps[42]?.getD undef = (.agg #[.int .u32 (s : Int), .int .u32 (t : Int), .int .u32 (imm : Int), .int .u32 (sx : Int), .int .i64 sa, .int .i64 rd]) := hdep 42 (by kernel_rfl)
        refine if_yes (by kernel_rfl) ?_
        simp [go_sem, h30, h42]
        refine (HCC.out wx).mono ?_
        rintro e wG ⟨rfl, hbG⟩
        exact hK.out _ _ hbG rfl
      · intro A wx hR hout hdep K hK
        have h43 : A.tmps[43]?.getD undef = (.tuple #[.int .u32 (r.getD 0 : Int), .bool r.isSome]) := hdep 43 (by kernel_rfl)
        refine if_yes (by kernel_rfl) ?_
        simp [go_sem, h43]
        exact hK.out _ _ (Below.refl _ _) rfl
      · intro A wx hR hout hdep K hK
        have h43 : A.tmps[43]?.getD undef = (.tuple #[.int .u32 (r.getD 0 : Int), .bool r.isSome]) := hdep 43 (by kernel_rfl)
        refine if_yes (by kernel_rfl) ?_
        simp [go_sem, h43]
        exact hK.out _ _ (Below.refl _ _) rfl
      · intro A wx hR hout hdep K hK
        have h44 : A.tmps[44]?.getD undef = (.int .u32 (r.getD 0 : Int)) := hdep 44 (by kernel_rfl)
        refine if_yes (by kernel_rfl) ?_
        simp [go_sem, h44]
        exact hK.out _ _ (Below.refl _ _) rfl
      · intro A wx hR hout hdep K hK
        have h45 : A.tmps[45]?.getD undef = (.bool r.isSome) := hdep 45 (by kernel_rfl)
        refine if_yes (by kernel_rfl) ?_
        simp [go_sem, h45]
        exact hK.out _ _ (Below.refl _ _) rfl
      simp only [putSl, Act.put, List.setIfInBounds_toArray, List.set_cons_zero, List.set_cons_succ, show f 6 = .int .u32 (r.getD 0 : Int) from hf 6 (by kernel_rfl), show f 7 = .bool r.isSome from hf 7 (by kernel_rfl)]
      have HBF : Hid (Below w.heap.size w wy) := below_tr HBE.out hR
      go_wp2
      go_ret2
      exact ⟨rfl, HBF.out⟩
theorem known10 (n : ByteArray) (w : World) : Calls Tryd.prog 10 #[.string n] w fun e w' => e = .returned (.bool (aIdx n).isSome) ∧ Below w.heap.size w w' := by
  have hst1 := run_store_func Tryd.prog
  have hst2 := run_store_nilF Tryd.prog
  have K16 := afound16 n w
  have HA : Hid (aRow n = (match aIdx n with | some k => (if h : k < aL.length then aVal aL[k] else undef) | none => .agg #[.string ⟨#[]⟩, .nilFunc])) := rfl
  have HL : Hid (∀ k, aIdx n = some k → k < aL.length) := fun k h => aidx_lt h
  generalize aRow n = AR at HA K16
  generalize aIdx n = o at HA K16 HL ⊢
  cases o with
  | none =>
    obtain rfl : AR = .agg #[.string ⟨#[]⟩, .nilFunc] := HA.out
    clear HA HL
    go_enter Tryd.func10, Tryd.ntmps10
    go_wp2_with fail
    refine K16.mono ?_
    rintro e w3 ⟨rfl, hb3⟩
    obtain ⟨w4, hw4⟩ : ∃ z, z = w3.alloc (.cells #[.string ⟨#[]⟩, .nilFunc] 37) := ⟨_, rfl⟩
    have hb4 : Below w3.heap.size w3 w4 := by rw [hw4]; exact (Below.refl _ _).alloc (Nat.le_refl _) _
    have hz4 := hb4
    have HB4 : Hid (Below w.heap.size w w4) := below_tr hb3 hb4
    rw [hw4] at HB4
    clear hb3 hb4 hz4 K16 hw4
    go_wp2
    go_ret
    exact ⟨rfl, HB4.out⟩
  | some k =>
    have hk := HL.out k rfl
    obtain rfl : AR = aVal aL[k] := by have := HA.out; simp only [dif_pos hk] at this; exact this
    clear HA HL
    unfold aVal at K16
    generalize aL[k] = ar at K16
    obtain ⟨an, fn⟩ := ar
    simp only at K16
    clear hk
    go_enter Tryd.func10, Tryd.ntmps10
    go_wp2_with fail
    refine K16.mono ?_
    rintro e w3 ⟨rfl, hb3⟩
    obtain ⟨w4, hw4, hb4, hz4, k0, k1, _⟩ := box2 w3 (.string an) (.func (.func fn) #[] #[]) 37
    have HB4 : Hid (Below w.heap.size w w4) := below_tr hb3 hb4
    clear hb3 hb4 hz4 K16
    go_wp2
    go_ret
    exact ⟨rfl, HB4.out⟩
end Go.Proofs.YtogokbefpgaciaaDoor
