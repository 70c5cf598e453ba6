import Derived.Test.YtimfipkbddpdmaaGreatDoorVals
import Derived.Test.YtimfipkbddpdmaaGreatDoorAh
import Derived.Test.YtimfipkbddpdmaaGreatDoorAb
import Derived.Test.YtimfipkbddpdmaaGreatDoorMb
set_option linter.unusedVariables false
set_option linter.unusedSimpArgs false
set_option maxRecDepth 100000
open Go Go.RowKit
namespace Go.Proofs.YtimfipkbddpdmaaGreatDoor
theorem work_any (k : Nat) (hk : k < aL.length) (x : Tk) (hx : x.Ok) (h0 : (0 <= x.sa /\ x.sa < 32) /\ (0 <= x.sa /\ x.sa < 32 /\ 0 <= x.rd /\ x.rd < 32)) (h1 : k = 30 -> x.sa <= x.rd) (w : World) :
  Calls Tryz.prog aL[k].2 #[x.val] w fun e w' => Told (workN k x) e /\ Below w.heap.size w w' := by
 match k, hk with
 | 0, _ => exact w_add x hx  w
 | 1, _ => exact w_sub x hx  w
 | 2, _ => exact w_addi x hx  w
 | 3, _ => exact w_addu x hx  w
 | 4, _ => exact w_subu x hx  w
 | 5, _ => exact w_addiu x hx  w
 | 6, _ => exact w_and x hx  w
 | 7, _ => exact w_or x hx  w
 | 8, _ => exact w_xor x hx  w
 | 9, _ => exact w_nor x hx  w
 | 10, _ => exact w_andi x hx  w
 | 11, _ => exact w_ori x hx  w
 | 12, _ => exact w_xori x hx  w
 | 13, _ => exact w_slt x hx  w
 | 14, _ => exact w_sltu x hx  w
 | 15, _ => exact w_slti x hx  w
 | 16, _ => exact w_sltiu x hx  w
 | 17, _ => exact w_lui x hx  w
 | 18, _ => exact w_sll x hx h0.1 w
 | 19, _ => exact w_srl x hx h0.1 w
 | 20, _ => exact w_sra x hx h0.1 w
 | 21, _ => exact w_sllv x hx  w
 | 22, _ => exact w_srlv x hx  w
 | 23, _ => exact w_srav x hx  w
 | 24, _ => exact w_rotr x hx  w
 | 25, _ => exact w_rotrv x hx  w
 | 26, _ => exact w_mul x hx  w
 | 27, _ => exact w_clz x hx  w
 | 28, _ => exact w_clo x hx  w
 | 29, _ => exact w_ext x hx h0.2 w
 | 30, _ => exact w_ins x hx h0.2 (h1 rfl) w
 | 31, _ => exact w_wsbh x hx  w
 | 32, _ => exact w_seb x hx  w
 | 33, _ => exact w_seh x hx  w
 | k + 34, h => exact absurd h (by rw [aL_len]; omega)
theorem enter_any (k : Nat) (hk : k < aL.length) (args : Array Value) (w : World) : (callFunc aL[k].2 args).run Tryz.prog w = .ok (.enter aL[k].2 args) w := by
 match k, hk with
 | 0, _ => exact enter_of Tryz.func153 (by kernel_rfl) (by kernel_rfl) args w
 | 1, _ => exact enter_of Tryz.func155 (by kernel_rfl) (by kernel_rfl) args w
 | 2, _ => exact enter_of Tryz.func156 (by kernel_rfl) (by kernel_rfl) args w
 | 3, _ => exact enter_of Tryz.func157 (by kernel_rfl) (by kernel_rfl) args w
 | 4, _ => exact enter_of Tryz.func158 (by kernel_rfl) (by kernel_rfl) args w
 | 5, _ => exact enter_of Tryz.func159 (by kernel_rfl) (by kernel_rfl) args w
 | 6, _ => exact enter_of Tryz.func160 (by kernel_rfl) (by kernel_rfl) args w
 | 7, _ => exact enter_of Tryz.func161 (by kernel_rfl) (by kernel_rfl) args w
 | 8, _ => exact enter_of Tryz.func162 (by kernel_rfl) (by kernel_rfl) args w
 | 9, _ => exact enter_of Tryz.func163 (by kernel_rfl) (by kernel_rfl) args w
 | 10, _ => exact enter_of Tryz.func164 (by kernel_rfl) (by kernel_rfl) args w
 | 11, _ => exact enter_of Tryz.func165 (by kernel_rfl) (by kernel_rfl) args w
 | 12, _ => exact enter_of Tryz.func166 (by kernel_rfl) (by kernel_rfl) args w
 | 13, _ => exact enter_of Tryz.func167 (by kernel_rfl) (by kernel_rfl) args w
 | 14, _ => exact enter_of Tryz.func169 (by kernel_rfl) (by kernel_rfl) args w
 | 15, _ => exact enter_of Tryz.func170 (by kernel_rfl) (by kernel_rfl) args w
 | 16, _ => exact enter_of Tryz.func171 (by kernel_rfl) (by kernel_rfl) args w
 | 17, _ => exact enter_of Tryz.func172 (by kernel_rfl) (by kernel_rfl) args w
 | 18, _ => exact enter_of Tryz.func173 (by kernel_rfl) (by kernel_rfl) args w
 | 19, _ => exact enter_of Tryz.func174 (by kernel_rfl) (by kernel_rfl) args w
 | 20, _ => exact enter_of Tryz.func175 (by kernel_rfl) (by kernel_rfl) args w
 | 21, _ => exact enter_of Tryz.func176 (by kernel_rfl) (by kernel_rfl) args w
 | 22, _ => exact enter_of Tryz.func177 (by kernel_rfl) (by kernel_rfl) args w
 | 23, _ => exact enter_of Tryz.func178 (by kernel_rfl) (by kernel_rfl) args w
 | 24, _ => exact enter_of Tryz.func179 (by kernel_rfl) (by kernel_rfl) args w
 | 25, _ => exact enter_of Tryz.func181 (by kernel_rfl) (by kernel_rfl) args w
 | 26, _ => exact enter_of Tryz.func182 (by kernel_rfl) (by kernel_rfl) args w
 | 27, _ => exact enter_of Tryz.func183 (by kernel_rfl) (by kernel_rfl) args w
 | 28, _ => exact enter_of Tryz.func185 (by kernel_rfl) (by kernel_rfl) args w
 | 29, _ => exact enter_of Tryz.func186 (by kernel_rfl) (by kernel_rfl) args w
 | 30, _ => exact enter_of Tryz.func188 (by kernel_rfl) (by kernel_rfl) args w
 | 31, _ => exact enter_of Tryz.func190 (by kernel_rfl) (by kernel_rfl) args w
 | 32, _ => exact enter_of Tryz.func191 (by kernel_rfl) (by kernel_rfl) args w
 | 33, _ => exact enter_of Tryz.func192 (by kernel_rfl) (by kernel_rfl) args w
 | k + 34, h => exact absurd h (by rw [aL_len]; omega)
theorem aidx_name {n : ByteArray} {k : Nat} (h : aIdx n = some k) : ∃ hk : k < aL.length, aL[k].1.toList = n.toList := by
 obtain ⟨h1, h2, _⟩ := List.findIdx?_eq_some_iff_getElem.1 h
 exact ⟨h1, by simpa [aNm] using h2⟩
def tkOf (i : In) (s t : Nat) : Tk := ⟨s, t, i.imm, Sw.sextI i.imm 16, i.sa, i.rd⟩
def doR (i : In) (s t : Nat) : Option Nat := if isIns i then (match aIdx i.name with | some k => workN k (tkOf i s t) | none => none) else none
theorem sext16_lt (v : Nat) : Sw.sextI v 16 < 4294967296 := by
 rw [Sw.sextI, if_pos (by omega)]
 show Sw.sextS v 16 < _
 unfold Sw.sextS
 split <;> omega
theorem do_work {i : In} {s t k : Nat} (hs : s < 4294967296) (ht : t < 4294967296) (h : isIns i = true) (hk : aIdx i.name = some k) : ∃ hk : k < aL.length, ∀ w, Calls Tryz.prog aL[k].2 #[(tkOf i s t).val] w fun e w' => Told (workN k (tkOf i s t)) e /\ Below w.heap.size w w' := by
 obtain ⟨h1, h2⟩ := aidx_name hk
 obtain ⟨_, _, l3, l4, l5⟩ := ins_small h
 refine ⟨h1, fun w => work_any k h1 _ ⟨hs, ht, by show i.imm < _; omega, sext16_lt _⟩ ⟨l4, l4.1, l4.2, l3⟩ (fun e => ?_) w⟩
 subst e
 exact ins_le h (by rw [<- h2]; exact (by decide +kernel : (aL[30]'(by decide)).1.toList = [105, 110, 115]))
set_option maxHeartbeats 1000000 in
theorem do8 (i : In) (s t : Nat) (hi : i.imm < 4294967296) (hs : s < 4294967296) (ht : t < 4294967296) (w : World) (hT : Tab w) : Calls Tryz.prog 102 #[i.val, .int .u32 s, .int .u32 t] w fun e w' => e = .returned (.tuple #[.int .u32 ((doR i s t).getD 0 : Int), .bool (doR i s t).isSome]) /\ Below w.heap.size w w' := by
 obtain ⟨W, hW, hb, hz, d0, d1, d2, d3, d4, d5⟩ := box6 w (.string i.name) (.int .i64 i.rs) (.int .i64 i.rt) (.int .i64 i.rd) (.int .i64 i.sa) (.int .u32 i.imm) 55
 have hst1 := run_store_func Tryz.prog
 have hst2 := run_store_nilF Tryz.prog
 have K16 := afound16 i.name W
 have HB : Hid (Below w.heap.size w W) := hb
 have HT : Hid (∀ w', Below W.heap.size W w' -> Tab w') := fun w' h => hT.keep (below_tr hb h)
 have KE : Hid (∀ w', Below W.heap.size W w' -> Calls Tryz.prog 121 #[i.val] w' fun e w'' => e = .returned (.tuple #[.int .u32 (encN i : Int), .bool (isIns i)]) /\ Below w'.heap.size w' w'') := fun w' h => encode11 i hi w' (HT.out w' h)
 have KS : Hid (∀ w', Calls Tryz.prog 100 #[.int .u32 i.imm, .int .i64 16] w' fun e w'' => e = .returned (.int .u32 ((Sw.sextI i.imm 16 : Nat) : Int)) /\ w'' = w') := fun w' => Sw.sext_any i.imm 16 w'
 have HR : Hid (doR i s t = if isIns i then (match aIdx i.name with | some k => workN k (tkOf i s t) | none => none) else none) := rfl
 have HK : Hid (isIns i = true -> ∀ k, aIdx i.name = some k -> ∃ hk : k < aL.length, ∀ w, Calls Tryz.prog aL[k].2 #[(tkOf i s t).val] w fun e w' => Told (workN k (tkOf i s t)) e /\ Below w.heap.size w w') := fun h k hk => do_work hs ht h hk
 have HX : Hid ((tkOf i s t).val = .agg #[.int .u32 s, .int .u32 t, .int .u32 i.imm, .int .u32 ((Sw.sextI i.imm 16 : Nat) : Int), .int .i64 i.sa, .int .i64 i.rd]) := rfl
 have HA : Hid (aRow i.name = (match aIdx i.name with | some k => (if h : k < aL.length then aVal aL[k] else undef) | none => .agg #[.string ⟨#[]⟩, .nilFunc])) := rfl
 have HL : Hid (∀ k, aIdx i.name = some k -> k < aL.length) := fun k h => aidx_lt h
 generalize doR i s t = r at HR |-
 generalize encN i = E at KE
 generalize isIns i = ib at KE HR HK
 generalize aRow i.name = AR at HA K16
 generalize aIdx i.name = o at HR HK HA K16 HL
 generalize tkOf i s t = X at HR HK HX
 generalize Sw.sextI i.imm 16 = sx at KS HX
 clear hb hz hT hi hs ht
 obtain ⟨nm, rs, rt, rd, sa, imm⟩ := i
 simp only [In.val] at KE d0 d1 d2 d3 d4 d5 hW HX |-
 cases o with
 | none =>
  obtain rfl : AR = .agg #[.string ⟨#[]⟩, .nilFunc] := HA.out
  obtain rfl : r = none := by rw [HR.out]; split <;> rfl
  clear HR HA HK HL HX KS
  go_enter Tryz.func102, Tryz.ntmps102
  go_wp2_with fail
  refine K16.mono ?_
  rintro e w3 ⟨rfl, hb3⟩
  obtain ⟨w4, hw4⟩ : ∃ z, z = w3.alloc (.cells #[.string ⟨#[]⟩, .nilFunc] 167) := ⟨_, rfl⟩
  have hb4 : Below w3.heap.size w3 w4 := by rw [hw4]; exact (Below.refl _ _).alloc (Nat.le_refl _) _
  have hz4 := hb4
  have HB4 : Hid (Below W.heap.size W w4) := below_tr hb3 hb4
  have d0 := keep_cell HB4.out d0
  have d1 := keep_cell HB4.out d1
  have d2 := keep_cell HB4.out d2
  have d3 := keep_cell HB4.out d3
  have d4 := keep_cell HB4.out d4
  have d5 := keep_cell HB4.out d5
  have K17 := KE.out w4 HB4.out
  clear K16 hb3 hb4 hz4 KE
  rw [hw4] at d0 d1 d2 d3 d4 d5 K17
  go_wp2_with fail
  refine K17.mono ?_
  rintro e w5 ⟨rfl, hb5⟩
  have HBE : Hid (Below w.heap.size w w5) := below_tr HB.out (below_tr HB4.out (by rw [hw4]; exact hb5))
  clear K17 hb5 hw4
  cases ib with
  | false =>
   go_wp2
   go_ret2
   exact ⟨rfl, HBE.out⟩
  | true =>
   go_wp2
   go_ret2
   exact ⟨rfl, HBE.out⟩
 | some k =>
  have hk := HL.out k rfl
  obtain rfl : AR = aVal aL[k] := by have := HA.out; simp only [dif_pos hk] at this; exact this
  have HC : Hid (ib = true -> ∀ w, Calls Tryz.prog 122 #[.func (.func aL[k].2) #[] #[], .agg #[.int .u32 s, .int .u32 t, .int .u32 imm, .int .u32 sx, .int .i64 sa, .int .i64 rd]] w fun e w' => e = .returned (.tuple #[.int .u32 (r.getD 0 : Int), .bool r.isSome]) /\ Below w.heap.size w w') := fun h w => by
   obtain ⟨hk', hw⟩ := HK.out h k rfl
   have hr : r = workN k X := by rw [HR.out, h]; rfl
   rw [<- HX.out, hr]
   exact caught18 _ X _ w (fun w1 => enter_any k hk _ w1) hw
  have HN : Hid (ib = false -> r = none) := fun h => by show _ = _; rw [HR.out, h]; rfl
  clear HA HL HR HK HX
  unfold aVal at K16
  generalize aL[k] = ar at K16 HC
  obtain ⟨an, fn⟩ := ar
  simp only at K16 HC
  clear hk
  go_enter Tryz.func102, Tryz.ntmps102
  go_wp2_with fail
  refine K16.mono ?_
  rintro e w3 ⟨rfl, hb3⟩
  obtain ⟨w4, hw4, hb4, hz4, k0, k1, _⟩ := box2 w3 (.string an) (.func (.func fn) #[] #[]) 167
  have HB4 : Hid (Below W.heap.size W w4) := below_tr hb3 hb4
  have d0 := keep_cell HB4.out d0
  have d1 := keep_cell HB4.out d1
  have d2 := keep_cell HB4.out d2
  have d3 := keep_cell HB4.out d3
  have d4 := keep_cell HB4.out d4
  have d5 := keep_cell HB4.out d5
  have K17 := KE.out w4 HB4.out
  clear K16 hb3 hb4 hz4 KE
  go_wp2_with fail
  refine K17.mono ?_
  rintro e w5 ⟨rfl, hb5⟩
  have HBE : Hid (Below w.heap.size w w5) := below_tr HB.out (below_tr HB4.out hb5)
  have d0 := keep_cell hb5 d0
  have d1 := keep_cell hb5 d1
  have d2 := keep_cell hb5 d2
  have d3 := keep_cell hb5 d3
  have d4 := keep_cell hb5 d4
  have d5 := keep_cell hb5 d5
  have k0 := keep_cell hb5 k0
  have k1 := keep_cell hb5 k1
  clear K17 hb5
  cases ib with
  | false =>
   obtain rfl : r = none := HN.out rfl
   go_wp2
   go_ret2
   exact ⟨rfl, HBE.out⟩
  | true =>
   have HCC : Hid _ := HC.out rfl
   clear HC HN
   go_wp2
   refine wp_region_valsA [.pointer (some ⟨w3.heap.size, 1, none⟩), .func (.func fn) #[] #[], .int .u32 s, .int .u32 t, .pointer (some ⟨w.heap.size, 5, none⟩), .int .u32 imm, .pointer (some ⟨w.heap.size, 5, none⟩), .int .u32 imm, .int .u32 sx, .pointer (some ⟨w.heap.size, 4, none⟩), .int .i64 sa, .pointer (some ⟨w.heap.size, 3, none⟩), .int .i64 rd, .agg #[.int .u32 s, .int .u32 t, .int .u32 imm, .int .u32 sx, .int .i64 sa, .int .i64 rd], .tuple #[.int .u32 (r.getD 0 : Int), .bool r.isSome], .int .u32 (r.getD 0 : Int), .bool r.isSome, .int .u32 (r.getD 0 : Int), .bool r.isSome] _ (by kernel_rfl) rfl (by kernel_rfl) (by kernel_rfl) (by kernel_rfl) (fun C hC => ?_)
   simp only [putVs, List.take_succ_cons, List.take_zero, Act.put, List.setIfInBounds_toArray, List.set_cons_zero, List.set_cons_succ] at hC
   subst hC
   refine ⟨?_, fun wy hR => ?_⟩
   ·repeat' refine And.intro ?_ ?_
    all_goals first | exact True.intro | intro wx hR
    all_goals try (refine yes ?_; have d0 := keep_cell hR d0; have d1 := keep_cell hR d1; have d2 := keep_cell hR d2; have d3 := keep_cell hR d3; have d4 := keep_cell hR d4; have d5 := keep_cell hR d5; have k0 := keep_cell hR k0; have k1 := keep_cell hR k1; simp [go_sem, d0, d1, d2, d3, d4, d5, k0, k1]; exact lands)
    ·refine yes ?_
     simp [go_sem]
     refine (KS.out wx).mono ?_
     rintro e wG ⟨rfl, rfl⟩
     exact lands
    ·refine yes ?_
     simp [go_sem]
     refine (HCC.out wx).mono ?_
     rintro e wG ⟨rfl, hbG⟩
     exact landsAt hbG
   have HBF : Hid (Below w.heap.size w wy) := below_tr HBE.out hR
   go_wp2
   go_ret2
   exact ⟨rfl, HBF.out⟩
theorem known10 (n : ByteArray) (w : World) : Calls Tryz.prog 81 #[.string n] w fun e w' => e = .returned (.bool (aIdx n).isSome) /\ Below w.heap.size w w' := by
 have hst1 := run_store_func Tryz.prog
 have hst2 := run_store_nilF Tryz.prog
 have K16 := afound16 n w
 have HA : Hid (aRow n = (match aIdx n with | some k => (if h : k < aL.length then aVal aL[k] else undef) | none => .agg #[.string ⟨#[]⟩, .nilFunc])) := rfl
 have HL : Hid (∀ k, aIdx n = some k -> k < aL.length) := fun k h => aidx_lt h
 generalize aRow n = AR at HA K16
 generalize aIdx n = o at HA K16 HL |-
 cases o with
 | none =>
  obtain rfl : AR = .agg #[.string ⟨#[]⟩, .nilFunc] := HA.out
  clear HA HL
  go_enter Tryz.func81, Tryz.ntmps81
  go_wp2_with fail
  refine K16.mono ?_
  rintro e w3 ⟨rfl, hb3⟩
  obtain ⟨w4, hw4⟩ : ∃ z, z = w3.alloc (.cells #[.string ⟨#[]⟩, .nilFunc] 167) := ⟨_, rfl⟩
  have hb4 : Below w3.heap.size w3 w4 := by rw [hw4]; exact (Below.refl _ _).alloc (Nat.le_refl _) _
  have hz4 := hb4
  have HB4 : Hid (Below w.heap.size w w4) := below_tr hb3 hb4
  rw [hw4] at HB4
  clear hb3 hb4 hz4 K16 hw4
  go_wp2
  go_ret
  exact ⟨rfl, HB4.out⟩
 | some k =>
  have hk := HL.out k rfl
  obtain rfl : AR = aVal aL[k] := by have := HA.out; simp only [dif_pos hk] at this; exact this
  clear HA HL
  unfold aVal at K16
  generalize aL[k] = ar at K16
  obtain ⟨an, fn⟩ := ar
  simp only at K16
  clear hk
  go_enter Tryz.func81, Tryz.ntmps81
  go_wp2_with fail
  refine K16.mono ?_
  rintro e w3 ⟨rfl, hb3⟩
  obtain ⟨w4, hw4, hb4, hz4, k0, k1, _⟩ := box2 w3 (.string an) (.func (.func fn) #[] #[]) 167
  have HB4 : Hid (Below w.heap.size w w4) := below_tr hb3 hb4
  clear hb3 hb4 hz4 K16
  go_wp2
  go_ret
  exact ⟨rfl, HB4.out⟩
theorem ne_lit {n m : ByteArray} {l : List UInt8} (h : ¬ n = m) (hl : m.toList = l) : (n.toList == l) = false := by
 cases hb : (n.toList == l) with
 | false => rfl
 | true => exact absurd (toList_inj (by rw [hl]; simpa using hb)) h
def trapB (n : ByteArray) (s t : Nat) : Bool :=
 if n.toList == [116, 103, 101] then decide (sg t <= sg s) else if n.toList == [116, 103, 101, 117] then decide (t <= s) else if n.toList == [116, 108, 116] then decide (sg s < sg t)
 else if n.toList == [116, 108, 116, 117] then decide (s < t) else if n.toList == [116, 101, 113] then s == t else if n.toList == [116, 110, 101] then s != t else false
theorem trap_tge (s t : Nat) : trapB ⟨#[116, 103, 101]⟩ s t = (decide (sg t <= sg s)) := by
 rw [trapB, show (⟨#[116, 103, 101]⟩ : ByteArray).toList = [116, 103, 101] from by decide +kernel]; rfl
theorem trap_tgeu (s t : Nat) : trapB ⟨#[116, 103, 101, 117]⟩ s t = (decide (t <= s)) := by
 rw [trapB, show (⟨#[116, 103, 101, 117]⟩ : ByteArray).toList = [116, 103, 101, 117] from by decide +kernel]; rfl
theorem trap_tlt (s t : Nat) : trapB ⟨#[116, 108, 116]⟩ s t = (decide (sg s < sg t)) := by
 rw [trapB, show (⟨#[116, 108, 116]⟩ : ByteArray).toList = [116, 108, 116] from by decide +kernel]; rfl
theorem trap_tltu (s t : Nat) : trapB ⟨#[116, 108, 116, 117]⟩ s t = (decide (s < t)) := by
 rw [trapB, show (⟨#[116, 108, 116, 117]⟩ : ByteArray).toList = [116, 108, 116, 117] from by decide +kernel]; rfl
theorem trap_teq (s t : Nat) : trapB ⟨#[116, 101, 113]⟩ s t = (s == t) := by
 rw [trapB, show (⟨#[116, 101, 113]⟩ : ByteArray).toList = [116, 101, 113] from by decide +kernel]; rfl
theorem trap_tne (s t : Nat) : trapB ⟨#[116, 110, 101]⟩ s t = (s != t) := by
 rw [trapB, show (⟨#[116, 110, 101]⟩ : ByteArray).toList = [116, 110, 101] from by decide +kernel]; rfl
theorem eq_cast (s t : Nat) : ((s : Int) == (t : Int)) = (s == t) := by
 by_cases e : s = t
 ·subst e; rw [beq_self_eq_true, beq_self_eq_true]
 ·have h : ¬ (s : Int) = (t : Int) := by omega
  rw [beq_eq_false_iff_ne.2 h, beq_eq_false_iff_ne.2 e]
set_option maxHeartbeats 1000000 in
theorem t12_tge (s t : Nat) (hs : s < 4294967296) (ht : t < 4294967296) (w : World) : Calls Tryz.prog 86 #[.string ⟨#[116, 103, 101]⟩, .int .u32 s, .int .u32 t] w fun e w' => e = .returned (.bool (trapB ⟨#[116, 103, 101]⟩ s t)) /\ w' = w := by
 rw [trap_tge]
 have K1 := signed26 s hs w
 have K2 := signed26 t ht w
 generalize sg s = p at K1 |-
 generalize sg t = q at K2 |-
 go_enter Tryz.func86, Tryz.ntmps86
 go_wp2_with fail
 refine K1.mono ?_
 rintro e w1 ⟨rfl, rfl⟩
 go_wp2_with fail
 refine K2.mono ?_
 rintro e w1 ⟨rfl, rfl⟩
 go_wp2
 go_ret
 exact ⟨rfl, rfl⟩
set_option maxHeartbeats 1000000 in
theorem t12_tgeu (s t : Nat) (hs : s < 4294967296) (ht : t < 4294967296) (w : World) : Calls Tryz.prog 86 #[.string ⟨#[116, 103, 101, 117]⟩, .int .u32 s, .int .u32 t] w fun e w' => e = .returned (.bool (trapB ⟨#[116, 103, 101, 117]⟩ s t)) /\ w' = w := by
 rw [trap_tgeu]
 have hd : decide ((t : Int) <= (s : Int)) = decide (t <= s) := by simp
 generalize decide (t <= s) = b at hd |-
 go_enter Tryz.func86, Tryz.ntmps86
 go_wp2
 go_ret
 exact ⟨by first | rfl | (rw [<- hd]; rfl) | (simp [<- hd]), rfl⟩
set_option maxHeartbeats 1000000 in
theorem t12_tlt (s t : Nat) (hs : s < 4294967296) (ht : t < 4294967296) (w : World) : Calls Tryz.prog 86 #[.string ⟨#[116, 108, 116]⟩, .int .u32 s, .int .u32 t] w fun e w' => e = .returned (.bool (trapB ⟨#[116, 108, 116]⟩ s t)) /\ w' = w := by
 rw [trap_tlt]
 have K1 := signed26 s hs w
 have K2 := signed26 t ht w
 generalize sg s = p at K1 |-
 generalize sg t = q at K2 |-
 go_enter Tryz.func86, Tryz.ntmps86
 go_wp2_with fail
 refine K1.mono ?_
 rintro e w1 ⟨rfl, rfl⟩
 go_wp2_with fail
 refine K2.mono ?_
 rintro e w1 ⟨rfl, rfl⟩
 go_wp2
 go_ret
 exact ⟨rfl, rfl⟩
set_option maxHeartbeats 1000000 in
theorem t12_tltu (s t : Nat) (hs : s < 4294967296) (ht : t < 4294967296) (w : World) : Calls Tryz.prog 86 #[.string ⟨#[116, 108, 116, 117]⟩, .int .u32 s, .int .u32 t] w fun e w' => e = .returned (.bool (trapB ⟨#[116, 108, 116, 117]⟩ s t)) /\ w' = w := by
 rw [trap_tltu]
 have hd : decide ((s : Int) < (t : Int)) = decide (s < t) := by simp
 generalize decide (s < t) = b at hd |-
 go_enter Tryz.func86, Tryz.ntmps86
 go_wp2
 go_ret
 exact ⟨by first | rfl | (rw [<- hd]; rfl) | (simp [<- hd]), rfl⟩
set_option maxHeartbeats 1000000 in
theorem t12_teq (s t : Nat) (hs : s < 4294967296) (ht : t < 4294967296) (w : World) : Calls Tryz.prog 86 #[.string ⟨#[116, 101, 113]⟩, .int .u32 s, .int .u32 t] w fun e w' => e = .returned (.bool (trapB ⟨#[116, 101, 113]⟩ s t)) /\ w' = w := by
 rw [trap_teq]
 have hd : ((s : Int) == (t : Int)) = (s == t) := eq_cast s t
 generalize (s == t) = b at hd |-
 go_enter Tryz.func86, Tryz.ntmps86
 go_wp2
 go_ret
 exact ⟨by first | rfl | (rw [<- hd]; rfl) | (simp [<- hd]), rfl⟩
set_option maxHeartbeats 1000000 in
theorem t12_tne (s t : Nat) (hs : s < 4294967296) (ht : t < 4294967296) (w : World) : Calls Tryz.prog 86 #[.string ⟨#[116, 110, 101]⟩, .int .u32 s, .int .u32 t] w fun e w' => e = .returned (.bool (trapB ⟨#[116, 110, 101]⟩ s t)) /\ w' = w := by
 rw [trap_tne]
 have hd : ((s : Int) == (t : Int)) = (s == t) := eq_cast s t
 have hd2 : (s != t) = !(s == t) := rfl
 rw [hd2]
 generalize (s == t) = b at hd |-
 go_enter Tryz.func86, Tryz.ntmps86
 go_wp2
 go_ret
 exact ⟨by first | rfl | (rw [<- hd]; rfl) | (simp [<- hd]), rfl⟩
set_option maxHeartbeats 1000000 in
theorem traps12 (n : ByteArray) (s t : Nat) (hs : s < 4294967296) (ht : t < 4294967296) (w : World) : Calls Tryz.prog 86 #[.string n, .int .u32 s, .int .u32 t] w fun e w' => e = .returned (.bool (trapB n s t)) /\ w' = w := by
 by_cases h_tge : n = ⟨#[116, 103, 101]⟩
 ·subst h_tge; exact t12_tge s t hs ht w
 by_cases h_tgeu : n = ⟨#[116, 103, 101, 117]⟩
 ·subst h_tgeu; exact t12_tgeu s t hs ht w
 by_cases h_tlt : n = ⟨#[116, 108, 116]⟩
 ·subst h_tlt; exact t12_tlt s t hs ht w
 by_cases h_tltu : n = ⟨#[116, 108, 116, 117]⟩
 ·subst h_tltu; exact t12_tltu s t hs ht w
 by_cases h_teq : n = ⟨#[116, 101, 113]⟩
 ·subst h_teq; exact t12_teq s t hs ht w
 by_cases h_tne : n = ⟨#[116, 110, 101]⟩
 ·subst h_tne; exact t12_tne s t hs ht w
 have e_tge := ne_lit h_tge (show (⟨#[116, 103, 101]⟩ : ByteArray).toList = [116, 103, 101] by decide +kernel)
 have e_tgeu := ne_lit h_tgeu (show (⟨#[116, 103, 101, 117]⟩ : ByteArray).toList = [116, 103, 101, 117] by decide +kernel)
 have e_tlt := ne_lit h_tlt (show (⟨#[116, 108, 116]⟩ : ByteArray).toList = [116, 108, 116] by decide +kernel)
 have e_tltu := ne_lit h_tltu (show (⟨#[116, 108, 116, 117]⟩ : ByteArray).toList = [116, 108, 116, 117] by decide +kernel)
 have e_teq := ne_lit h_teq (show (⟨#[116, 101, 113]⟩ : ByteArray).toList = [116, 101, 113] by decide +kernel)
 have e_tne := ne_lit h_tne (show (⟨#[116, 110, 101]⟩ : ByteArray).toList = [116, 110, 101] by decide +kernel)
 have HF : Hid (trapB n s t = false) := by show _ = _; rw [trapB, e_tge, e_tgeu, e_tlt, e_tltu, e_teq, e_tne]; rfl
 clear h_tge h_tgeu h_tlt h_tltu h_teq h_tne
 go_enter Tryz.func86, Tryz.ntmps86
 go_wp2
 go_ret
 exact ⟨by rw [HF.out]; rfl, rfl⟩
def simN (i : In) : Nat := Sw.sextI i.imm 16
theorem simm79 (i : In) (w : World) : Calls Tryz.prog 79 #[i.val] w fun e w' => e = .returned (.int .u32 (simN i : Int)) /\ Below w.heap.size w w' := by
 obtain ⟨name, rs, rt, rd, sa, imm⟩ := i
 unfold In.val simN
 obtain ⟨W, hW, hb, hz, d0, d1, d2, d3, d4, d5⟩ := box6 w (.string name) (.int .i64 rs) (.int .i64 rt) (.int .i64 rd) (.int .i64 sa) (.int .u32 imm) 55
 have K := Sw.sext_any imm 16 W
 generalize Sw.sextI imm 16 = z at K |-
 have HB : Hid (Below w.heap.size w W) := hb
 clear hb hz
 go_enter Tryz.func79, Tryz.ntmps79
 go_wp2_with fail
 refine K.mono ?_
 rintro e w1 ⟨rfl, rfl⟩
 go_wp2
 go_ret
 exact ⟨rfl, HB.out⟩
def formOf (n : ByteArray) : ByteArray := (foundR (nameB n)).form
def inB (n : ByteArray) : Bool := (formOf n).toList == [116, 115, 105] || ((formOf n).toList == [116, 105] || (formOf n).toList == [116, 115, 120])
def inReg (i : In) : Int := if inB i.name then i.rt else i.rd
theorem madeIn82 (i : In) (w : World) : Calls Tryz.prog 82 #[i.val] w fun e w' => e = .returned (.int .i64 (inReg i)) /\ Below w.heap.size w w' := by
 obtain ⟨name, rs, rt, rd, sa, imm⟩ := i
 obtain ⟨W, hW, hb, hz, d0, d1, d2, d3, d4, d5⟩ := box6 w (.string name) (.int .i64 rs) (.int .i64 rt) (.int .i64 rd) (.int .i64 sa) (.int .u32 imm) 55
 have K : Calls Tryz.prog 87 #[.string name] W fun e w' => e = .returned (.string (formOf name)) /\ Below W.heap.size W w' := form13 name W
 have HI : Hid (inReg ⟨name, rs, rt, rd, sa, imm⟩ = if inB name then rt else rd) := rfl
 unfold In.val
 generalize inReg ⟨name, rs, rt, rd, sa, imm⟩ = z at HI |-
 unfold inB at HI
 generalize formOf name = f at K HI
 have HB : Hid (Below w.heap.size w W) := hb
 clear hb hz
 have hk : ∀ w1, Below W.heap.size W w1 -> w1.cell? ⟨w.heap.size, 2, none⟩ = some (.int .i64 rt) /\ w1.cell? ⟨w.heap.size, 3, none⟩ = some (.int .i64 rd) := fun w1 h => ⟨keep_cell h d2, keep_cell h d3⟩
 have HK : Hid _ := hk
 clear hk
 cases h1 : (f.toList == [116, 115, 105]) <;> cases h2 : (f.toList == [116, 105]) <;> cases h3 : (f.toList == [116, 115, 120])
 all_goals
  rw [h1, h2, h3] at HI
  go_enter Tryz.func82, Tryz.ntmps82
  go_wp2_with fail
  refine K.mono ?_
  rintro e w1 ⟨rfl, hb1⟩
  obtain ⟨q2, q3⟩ := HK.out w1 hb1
  have HB1 : Hid (Below w.heap.size w w1) := below_tr HB.out hb1
  clear hb1 K
  go_wp2
  go_ret
  exact ⟨by rw [HI.out]; rfl, HB1.out⟩
def madeR (i : In) (s t : Nat) : Except Ev Nat := match doR i s t with
 | some v => .ok v
 | none => .error ⟨4, 0, 0, 0, 0⟩
theorem made83 (i : In) (s t : Nat) (hi : i.imm < 4294967296) (hs : s < 4294967296) (ht : t < 4294967296) (w : World) (hT : Tab w) : Calls Tryz.prog 83 #[i.val, .int .u32 s, .int .u32 t] w fun e w' => (match madeR i s t with
  | .ok v => e = .returned (.int .u32 v)
  | .error ev => e = .panicked (thrownE ev)) /\ Below w.heap.size w w' := by
 have K0 : Hid (∀ w, Tab w -> Calls Tryz.prog 102 #[i.val, .int .u32 s, .int .u32 t] w fun e w' => e = .returned (.tuple #[.int .u32 ((doR i s t).getD 0 : Int), .bool (doR i s t).isSome]) /\ Below w.heap.size w w') := fun w hT => do8 i s t hi hs ht w hT
 have HM : Hid (madeR i s t = match doR i s t with | some v => .ok v | none => .error ⟨4, 0, 0, 0, 0⟩) := rfl
 generalize madeR i s t = z at HM |-
 generalize doR i s t = r at HM K0
 obtain ⟨name, rs, rt, rd, sa, imm⟩ := i
 obtain ⟨W, hW, hb, hz, d0, d1, d2, d3, d4, d5⟩ := box6 w (.string name) (.int .i64 rs) (.int .i64 rt) (.int .i64 rd) (.int .i64 sa) (.int .u32 imm) 55
 have K := K0.out W (hT.keep hb)
 unfold In.val at K |-
 have HB : Hid (Below w.heap.size w W) := hb
 clear hb hz hT K0 hi hs ht
 cases r with
 | some v =>
  obtain rfl : z = .ok v := HM.out
  simp only
  go_enter Tryz.func83, Tryz.ntmps83
  go_wp2_with fail
  refine K.mono ?_
  rintro e w1 ⟨rfl, hb1⟩
  have HB1 : Hid (Below w.heap.size w w1) := below_tr HB.out hb1
  clear hb1 K
  go_wp2
  go_ret
  exact ⟨rfl, HB1.out⟩
 | none =>
  obtain rfl : z = .error ⟨4, 0, 0, 0, 0⟩ := HM.out
  simp only
  go_enter Tryz.func83, Tryz.ntmps83
  go_wp2_with fail
  refine K.mono ?_
  rintro e w1 ⟨rfl, hb1⟩
  have HB1 : Hid (Below w.heap.size w w1) := below_tr HB.out hb1
  clear hb1 K
  go_wp2
  exact ⟨rfl, rfl, HB1.out⟩
end Go.Proofs.YtimfipkbddpdmaaGreatDoor
